/-
  A machine in the midst of one instruction, as impl holds it: what lies where, and what stays.
-/
import Derived.Test.YtkfehdkjeodbmaaGreatDoorStpp
namespace Go.Proofs.YtkfehdkjeodbmaaGreatDoor.Stpi
open Go.ChangeShapes Go.WideShapes Go.ChangeAt Go.RowKit Go.Deep
set_option linter.unusedVariables false
set_option linter.unusedSimpArgs false
set_option maxRecDepth 20000
open Signed (inB sgn ret_int ret_bool)
open Busw Busx Stpp
def stacks : List ByteArray := [⟨#[98, 99]⟩, ⟨#[100, 101]⟩, ⟨#[104, 108]⟩, ⟨#[97, 102]⟩]
def bitTs : List ByteArray := [⟨#[]⟩, ⟨#[98, 105, 116]⟩, ⟨#[114, 101, 115]⟩, ⟨#[115, 101, 116]⟩]
def TRow (w : World) (g : Nat) (l : List ByteArray) : Prop := ∀ i, i < l.length → w.cell? ⟨g, i, none⟩ = some (.string (l.getD i ⟨#[]⟩))
/-- What the two tables hold. -/
structure Tb (w : World) : Prop where
  stack : TRow w 0 stacks
  bit : TRow w 1 bitTs
theorem TRow.lt {w : World} {g : Nat} {l : List ByteArray} (h : TRow w g l) (hl : 0 < l.length) : g < w.heap.size := World.block_lt_of_cell? w ⟨g, 0, none⟩ (h 0 hl)
theorem TRow.of {w w' : World} {g : Nat} {l : List ByteArray} (h : TRow w g l) (b : w'.heap[g]? = w.heap[g]?) : TRow w' g l := fun i hi => (World.cell?_of_block (a := ⟨g, i, none⟩) b).trans (h i hi)
theorem Tb.of {w w' : World} (h : Tb w) (b : ∀ k, k = 0 ∨ k = 1 → w'.heap[k]? = w.heap[k]?) : Tb w' := ⟨h.stack.of (b _ (.inl rfl)), h.bit.of (b _ (.inr rfl))⟩
theorem Tb.below {w w' : World} (h : Tb w) (b : Below w.heap.size w w') : Tb w' := ⟨h.stack.of (b.block _ (h.stack.lt (by decide))), h.bit.of (b.block _ (h.bit.lt (by decide)))⟩
structure G where
  (W0 : World)
  (K B base : Nat)
  (code : Int)
  (cb : Bool)
  (imm x y z p q : Int)
  (po0 : Option Addr)
  (n0 cap0 : Nat)
  (L0 : List Int)
def kc (g : G) (full : Bool) : Array Value := #[.pointer (some ⟨g.B, 0, none⟩), .pointer (some ⟨g.B, 0, none⟩), .int .i64 g.code, .bool g.cb, .int .i64 g.imm, .int .i64 g.x, .int .i64 g.y, .int .i64 g.z, .int .i64 g.p, .int .i64 g.q, .bool full]
structure At (g : G) (W : World) (m : M) (full : Bool) (po : Option Addr) (cap : Nat) : Prop where
  held : Held W g.B g.base m po cap
  k : W.heap[g.K]? = some (.cells (kc g full) 99 (0, 0))
  old : W.ownsRow g.base 2 1 (.slice g.po0 g.n0 g.cap0) g.n0 (outC g.L0)
  len : blk g.po0 = blk po → g.n0 ≤ m.out.length
  os : W.os = g.W0.os
  tape : W.tape = g.W0.tape
  output : W.output = g.W0.output
  size : g.W0.heap.size ≤ W.heap.size
  block : ∀ k, k < g.W0.heap.size → k ≠ g.B → k ≠ g.K → some k ≠ blk g.po0 → W.heap[k]? = g.W0.heap[k]?
  mov : Moved g.W0 g.po0 po
  tab : Tb W
  bB : g.base ≤ g.B
  bK : g.base ≤ g.K
  bT : 0 < g.base ∧ 1 < g.base
  low : ∀ k, blk g.po0 = some k → k < g.W0.heap.size
def In (g : G) (W : World) (m : M) (full : Bool) : Prop := ∃ po cap, At g W m full po cap
theorem row_other {w : World} {base n B : Nat} {v : Value} {xs : List Value} {cs : Array Value} {t : TypeId} {fz : Nat × Nat} (ht : t ≠ 2) (h : w.ownsRow base 2 1 v n xs) (hb : w.heap[B]? = some (.cells cs t fz)) : v.ownBlock ≠ some B := by
  intro e
  rcases h.2 with ⟨rfl, _⟩ | ⟨g, cap, cur, rfl, _, hg, _⟩
  · cases e
  · cases e
    rw [hb] at hg
    injection hg with hg
    injection hg with _ h2
    exact ht h2
theorem row_base {w : World} {base n cap k : Nat} {po : Option Addr} {xs : List Value} (h : w.ownsRow base 2 1 (.slice po n cap) n xs) (hk : blk po = some k) : base ≤ k ∧ k < w.heap.size := h.lt k (by rw [blk_own]; exact hk)
theorem At.neKB {g : G} {W : World} {m : M} {full : Bool} {po : Option Addr} {cap : Nat} (h : At g W m full po cap) : g.K ≠ g.B := fun e => by
  have h1 := h.k
  rw [e, h.held.box] at h1
  injection h1 with h1
  injection h1 with _ h2
  exact absurd h2 (by decide)
theorem At.turn {g : G} {W W' : World} {m m' : M} {full full' : Bool} {po po' : Option Addr} {cap cap' : Nat} (h : At g W m full po cap) (e1 : W'.os = W.os) (e2 : W'.tape = W.tape) (e3 : W'.output = W.output) (e4 : W.heap.size ≤ W'.heap.size)
    (hb : ∀ k, k < W.heap.size → k ≠ g.B → k ≠ g.K → some k ≠ blk po → W'.heap[k]? = W.heap[k]?) (hh : Held W' g.B g.base m' po' cap') (hk : W'.heap[g.K]? = some (.cells (kc g full') 99 (0, 0)))
    (ho : W'.ownsRow g.base 2 1 (.slice g.po0 g.n0 g.cap0) g.n0 (outC g.L0)) (hl : blk g.po0 = blk po' → g.n0 ≤ m'.out.length) (hm : Moved W po po') : At g W' m' full' po' cap' := by
  refine ⟨hh, hk, ho, hl, e1.trans h.os, e2.trans h.tape, e3.trans h.output, Nat.le_trans h.size e4, fun k h0 h1 h2 h3 => (hb k (Nat.lt_of_lt_of_le h0 h.size) h1 h2 (fun e => ?_)).trans (h.block k h0 h1 h2 h3), ?_, h.tab.of (fun k hkk => hb k ?_ ?_ ?_ (fun e => ?_)), h.bB, h.bK, h.bT, h.low⟩
  · rcases h.mov with rfl | ⟨p, rfl, hp⟩
    · exact h3 e
    · have e5 : k = p.block := Option.some.inj e
      omega
  · rcases hm with rfl | ⟨p, rfl, hp⟩
    · exact h.mov
    · exact .inr ⟨p, rfl, Nat.le_trans h.size hp⟩
  · rcases hkk with rfl | rfl
    · exact h.tab.stack.lt (by decide)
    · exact h.tab.bit.lt (by decide)
  · have h1 := h.bT
    have h2 := h.bB
    rcases hkk with rfl | rfl <;> omega
  · have h1 := h.bT
    have h2 := h.bK
    rcases hkk with rfl | rfl <;> omega
  · have h1 := h.bT
    have h2 := (row_base h.held.row e.symm).1
    rcases hkk with rfl | rfl <;> omega
theorem In.below {g : G} {W W' : World} {m : M} {full : Bool} (h : In g W m full) (hb : Below W.heap.size W W') : In g W' m full := by
  obtain ⟨po, cap, h⟩ := h
  have hg : W.grownBy W' none := ⟨hb.os, hb.tape, hb.output, hb.size, fun k hk _ => hb.block k hk⟩
  have kk : ∀ {b : Nat} {q : Option Addr} {n c : Nat} {xs : List Value}, W.ownsRow b 2 1 (.slice q n c) n xs → W'.ownsRow b 2 1 (.slice q n c) n xs := fun h => h.kept hg (by cases hv : (Value.slice _ _ _).ownBlock <;> simp)
  exact ⟨po, cap, h.turn hb.os hb.tape hb.output hb.size (fun k hk _ _ _ => hb.block k hk) ⟨(hb.block _ h.held.lt).trans h.held.box, kk h.held.row, h.held.ne⟩ ((hb.block _ (Array.getElem?_eq_some_iff.1 h.k).1).trans h.k) (kk h.old) h.len (.inl rfl)⟩
theorem In.ltB {g : G} {W : World} {m : M} {full : Bool} (h : In g W m full) : g.B < W.heap.size := by obtain ⟨po, cap, h⟩ := h; exact h.held.lt
theorem In.ltK {g : G} {W : World} {m : M} {full : Bool} (h : In g W m full) : g.K < W.heap.size := by obtain ⟨po, cap, h⟩ := h; exact (Array.getElem?_eq_some_iff.1 h.k).1
theorem In.base {g : G} {W : World} {m : M} {full : Bool} (h : In g W m full) : g.base ≤ W.heap.size := by obtain ⟨po, cap, h⟩ := h; have h1 := h.held.lt; have h2 := h.bB; omega
theorem In.tb {g : G} {W : World} {m : M} {full : Bool} (h : In g W m full) : Tb W := by obtain ⟨po, cap, h⟩ := h; exact h.tab
theorem In.neKB {g : G} {W : World} {m : M} {full : Bool} (h : In g W m full) : g.K ≠ g.B := by obtain ⟨po, cap, h⟩ := h; exact h.neKB
theorem In.kcell {g : G} {W : World} {m : M} {full : Bool} (h : In g W m full) (i : Nat) (v : Value) (hv : (kc g full)[i]? = some v) : W.cell? ⟨g.K, i, none⟩ = some v := by
  obtain ⟨po, cap, h⟩ := h
  rw [cell_of_row W g.K i _ _ _ h.k]; exact hv
theorem In.kfro {g : G} {W : World} {m : M} {full : Bool} (h : In g W m full) (i : Nat) : W.frozen? ⟨g.K, i, none⟩ = false := by
  obtain ⟨po, cap, h⟩ := h
  exact frozen_of_row _ _ _ _ _ h.k
theorem In.fro {g : G} {W : World} {m : M} {full : Bool} (h : In g W m full) (i : Nat) : W.frozen? ⟨g.B, i, none⟩ = false := by
  obtain ⟨po, cap, h⟩ := h
  exact frozen_of_row _ _ _ _ _ h.held.box
theorem In.cell {g : G} {W : World} {m : M} {full : Bool} (h : In g W m full) (i : Nat) (v : Value) (hv : (#[.int .i64 m.ra, .int .i64 m.rf, .int .i64 m.rB, .int .i64 m.rC, .int .i64 m.rD, .int .i64 m.rE, .int .i64 m.rH, .int .i64 m.rL, .int .i64 m.sp, .int .i64 m.pc, .bool m.ime, .bool m.hal] : Array Value)[i]? = some v) : W.cell? ⟨g.B, i, none⟩ = some v := by
  obtain ⟨po, cap, h⟩ := h
  refine celM h.held.box i v ?_
  match i, hv with
  | 0, hv => exact hv
  | 1, hv => exact hv
  | 2, hv => exact hv
  | 3, hv => exact hv
  | 4, hv => exact hv
  | 5, hv => exact hv
  | 6, hv => exact hv
  | 7, hv => exact hv
  | 8, hv => exact hv
  | 9, hv => exact hv
  | 10, hv => exact hv
  | 11, hv => exact hv
  | i + 12, hv => simp at hv
theorem set_grown1 (w : World) (B i : Nat) (v : Value) : w.grownBy (w.setCell ⟨B, i, none⟩ v) (some B) :=
  ⟨rfl, rfl, rfl, by rw [Busw.size_set]; exact Nat.le_refl _, fun k _ hk => Below.heap_setCell _ _ _ _ (fun e => hk (by rw [e]))⟩
theorem In.setB {g : G} {W : World} {m m' : M} {full : Bool} (i : Nat) (v : Value) (h : In g W m full) (ho : m'.out = m.out) (hbox : ∀ po cap, W.heap[g.B]? = some (.cells (cellsM m po cap) 33 (0, 0)) → (W.setCell ⟨g.B, i, none⟩ v).heap[g.B]? = some (.cells (cellsM m' po cap) 33 (0, 0))) :
    In g (W.setCell ⟨g.B, i, none⟩ v) m' full := by
  obtain ⟨po, cap, h⟩ := h
  have hg := set_grown1 W g.B i v
  refine ⟨po, cap, h.turn hg.os hg.tape hg.output hg.size (fun k hk h1 _ _ => hg.block k hk (fun e => h1 (Option.some.inj e))) (h.held.turn (hbox po cap h.held.box) ho hg) ((hg.block _ (Array.getElem?_eq_some_iff.1 h.k).1 (fun e => h.neKB (Option.some.inj e))).trans h.k) (h.old.kept hg (.inr (row_ne h.old h.held.box))) (fun e => by rw [ho]; exact h.len e) (.inl rfl)⟩
theorem In.setFull {g : G} {W : World} {m : M} {full : Bool} (h : In g W m full) : In g (W.setCell ⟨g.K, 10, none⟩ (.bool true)) m true := by
  obtain ⟨po, cap, h⟩ := h
  have hg := set_grown1 W g.K 10 (.bool true)
  have hr := row_other (by decide) h.held.row h.k
  refine ⟨po, cap, h.turn hg.os hg.tape hg.output hg.size (fun k hk _ h2 _ => hg.block k hk (fun e => h2 (Option.some.inj e))) ⟨(hg.block _ h.held.lt (fun e => h.neKB (Option.some.inj e).symm)).trans h.held.box, h.held.row.kept hg (.inr hr), h.held.ne⟩ ((heap_setCell_same _ _ _ _ _ _ h.k).trans rfl) (h.old.kept hg (.inr (row_other (by decide) h.old h.k))) h.len (.inl rfl)⟩
theorem In.s_ra {g : G} {W : World} {m : M} {full : Bool} (h : In g W m full) (v : Int) : In g (W.setCell ⟨g.B, 0, none⟩ (.int .i64 v)) { m with ra := v } full :=
  h.setB 0 _ rfl (fun po cap hb => by rw [cells_def] at hb ⊢; exact (heap_setCell_same _ _ _ _ _ _ hb).trans rfl)
theorem In.s_rf {g : G} {W : World} {m : M} {full : Bool} (h : In g W m full) (v : Int) : In g (W.setCell ⟨g.B, 1, none⟩ (.int .i64 v)) { m with rf := v } full :=
  h.setB 1 _ rfl (fun po cap hb => by rw [cells_def] at hb ⊢; exact (heap_setCell_same _ _ _ _ _ _ hb).trans rfl)
theorem In.s_rB {g : G} {W : World} {m : M} {full : Bool} (h : In g W m full) (v : Int) : In g (W.setCell ⟨g.B, 2, none⟩ (.int .i64 v)) { m with rB := v } full :=
  h.setB 2 _ rfl (fun po cap hb => by rw [cells_def] at hb ⊢; exact (heap_setCell_same _ _ _ _ _ _ hb).trans rfl)
theorem In.s_rC {g : G} {W : World} {m : M} {full : Bool} (h : In g W m full) (v : Int) : In g (W.setCell ⟨g.B, 3, none⟩ (.int .i64 v)) { m with rC := v } full :=
  h.setB 3 _ rfl (fun po cap hb => by rw [cells_def] at hb ⊢; exact (heap_setCell_same _ _ _ _ _ _ hb).trans rfl)
theorem In.s_rD {g : G} {W : World} {m : M} {full : Bool} (h : In g W m full) (v : Int) : In g (W.setCell ⟨g.B, 4, none⟩ (.int .i64 v)) { m with rD := v } full :=
  h.setB 4 _ rfl (fun po cap hb => by rw [cells_def] at hb ⊢; exact (heap_setCell_same _ _ _ _ _ _ hb).trans rfl)
theorem In.s_rE {g : G} {W : World} {m : M} {full : Bool} (h : In g W m full) (v : Int) : In g (W.setCell ⟨g.B, 5, none⟩ (.int .i64 v)) { m with rE := v } full :=
  h.setB 5 _ rfl (fun po cap hb => by rw [cells_def] at hb ⊢; exact (heap_setCell_same _ _ _ _ _ _ hb).trans rfl)
theorem In.s_rH {g : G} {W : World} {m : M} {full : Bool} (h : In g W m full) (v : Int) : In g (W.setCell ⟨g.B, 6, none⟩ (.int .i64 v)) { m with rH := v } full :=
  h.setB 6 _ rfl (fun po cap hb => by rw [cells_def] at hb ⊢; exact (heap_setCell_same _ _ _ _ _ _ hb).trans rfl)
theorem In.s_rL {g : G} {W : World} {m : M} {full : Bool} (h : In g W m full) (v : Int) : In g (W.setCell ⟨g.B, 7, none⟩ (.int .i64 v)) { m with rL := v } full :=
  h.setB 7 _ rfl (fun po cap hb => by rw [cells_def] at hb ⊢; exact (heap_setCell_same _ _ _ _ _ _ hb).trans rfl)
theorem In.s_sp {g : G} {W : World} {m : M} {full : Bool} (h : In g W m full) (v : Int) : In g (W.setCell ⟨g.B, 8, none⟩ (.int .i64 v)) { m with sp := v } full :=
  h.setB 8 _ rfl (fun po cap hb => by rw [cells_def] at hb ⊢; exact (heap_setCell_same _ _ _ _ _ _ hb).trans rfl)
theorem In.s_pc {g : G} {W : World} {m : M} {full : Bool} (h : In g W m full) (v : Int) : In g (W.setCell ⟨g.B, 9, none⟩ (.int .i64 v)) { m with pc := v } full :=
  h.setB 9 _ rfl (fun po cap hb => by rw [cells_def] at hb ⊢; exact (heap_setCell_same _ _ _ _ _ _ hb).trans rfl)
theorem In.s_ime {g : G} {W : World} {m : M} {full : Bool} (h : In g W m full) (v : Bool) : In g (W.setCell ⟨g.B, 10, none⟩ (.bool v)) { m with ime := v } full :=
  h.setB 10 _ rfl (fun po cap hb => by rw [cells_def] at hb ⊢; exact (heap_setCell_same _ _ _ _ _ _ hb).trans rfl)
theorem In.s_hal {g : G} {W : World} {m : M} {full : Bool} (h : In g W m full) (v : Bool) : In g (W.setCell ⟨g.B, 11, none⟩ (.bool v)) { m with hal := v } full :=
  h.setB 11 _ rfl (fun po cap hb => by rw [cells_def] at hb ⊢; exact (heap_setCell_same _ _ _ _ _ _ hb).trans rfl)
end Go.Proofs.YtkfehdkjeodbmaaGreatDoor.Stpi
