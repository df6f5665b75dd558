/-
  Contracts of ours for spec.l6Copy, spec.l6Write and spec.BusWrite.
-/
import Derived.Test.YtkfehdkjeodbmaaGreatDoorBusx
import Derived.Laws.AppendOwnNone
namespace Go.Proofs.YtkfehdkjeodbmaaGreatDoor.Busy
open Go.ChangeShapes Go.WideShapes Go.ChangeAt Go.RowKit Go.Deep
set_option linter.unusedVariables false
set_option linter.unusedSimpArgs false
set_option maxRecDepth 20000
open Signed (inB ret_int ret_bool isByte_any l1In_any)
open Carts CartK CartL CartM CartN CartP CartR CartW CartX CartY Outs Mach MachT MachO MachK MachB Busw Busx
theorem append_sl {ops : Array Oper} {rest : List Oper} {o : Oper} {a : Act} {w : World} {Q : Exit → Act → World → Prop} (hgd : o.guard = none) (s x : Operand) (ho : o.op = .call { callee := .builtin .append, args := #[s, x], argTypes := #[26, 26] })
    (base : Nat) (v : Value) (n : Nat) (xs : List Value) (hs : a.eval s = v) (hown : w.ownsRow base 2 1 v n xs) (po : Option Addr) (L : List Int) (cap : Nat) (hx : a.eval x = .slice po L.length cap) (hsl : Sl w po L cap) (hn : n + L.length ≤ 2097152) (hbase : base ≤ w.heap.size)
    (h : ∀ v' w', w'.ownsRow base 2 1 v' (n + L.length) (xs ++ outC L) → w.grownBy w' v.ownBlock → wpList Tryz.prog ops Q rest (a.put o.dst v') w') : wpList Tryz.prog ops Q (o :: rest) a w := by
  obtain ⟨i0, hi, hz0, hz1, hz2⟩ := Busw.info_parts Busw.info2
  rcases hsl with ⟨rfl, rfl, rfl⟩ | ⟨b, off, rfl, hc⟩
  · refine wpList_append_own_none hgd s x 26 ho base 2 i0 1 Tryz.underlying26 hi v n xs hs hown hx (h v w ?_ ⟨rfl, rfl, rfl, Nat.le_refl _, fun _ _ _ => rfl⟩)
    simpa [outC] using hown
  · refine wpList_append_own _ hgd s x 26 ho base 2 i0 (.int .i64 0) 1 8 Tryz.underlying26 hi hz0 hz1 hz2 rfl (by decide) v n xs hs hown ⟨b, off, none⟩ L.length cap (outC L) hx (by simp [outC]) ?_ ?_ (by unfold maxLen; omega) (by omega) hbase (fun v' w' h1 h2 _ => h v' w' h1 h2)
    · intro j u hu
      unfold outC at hu
      rw [List.getElem?_map] at hu
      obtain ⟨z, hz, rfl⟩ := Option.map_eq_some_iff.1 hu
      obtain ⟨hj, rfl⟩ := List.getElem?_eq_some_iff.1 hz
      have e : (⟨b, off, none⟩ : Addr).add j = ⟨b, off + j, none⟩ := by unfold Addr.add; split <;> simp_all
      rw [e]
      exact (hc j hj).2
    · intro u hu
      obtain ⟨z, _, rfl⟩ := List.mem_map.1 hu; rfl
theorem own_slice {w : World} {base n : Nat} {v : Value} {xs : List Value} (h : w.ownsRow base 2 1 v n xs) : ∃ po cap, v = .slice po n cap := by
  rcases h.2 with ⟨rfl, h0⟩ | ⟨g, cap', cur, hv, _⟩
  · exact ⟨none, 0, by rw [h0]⟩
  · exact ⟨_, _, hv⟩
/-- What a call finds that has boxed its machine and its result. -/
structure Two (w W : World) (m : M) (po : Option Addr) (cap : Nat) (cZ : Array Value) : Prop where
  box : W.heap[w.heap.size]? = some (.cells (cellsM m po cap) 33 (0, 0))
  res : W.heap[w.heap.size + 1]? = some (.cells cZ 33 (0, 0))
  bel : Below w.heap.size w W
theorem Two.lt {w W : World} {m : M} {po : Option Addr} {cap : Nat} {cZ : Array Value} (h : Two w W m po cap cZ) : w.heap.size + 1 < W.heap.size := (Array.getElem?_eq_some_iff.1 h.res).1
theorem two_enter (w : World) (m : M) (po : Option Addr) (cap : Nat) (cM cZ : Array Value) (h : cM = cellsM m po cap) : Two w ((w.alloc (.cells cM 33)).alloc (.cells cZ 33)) m po cap cZ := by
  subst h
  refine ⟨by rw [Below.heap_alloc _ _ _ (by simp)]; exact heap_alloc_last w _, ?_, by repeat (with_reducible first | exact Below.refl _ _ | refine CartL.grow ?_ _ | refine below_drewN ?_ _ | refine Below.drew ?_)⟩
  have h2 := heap_alloc_last (w.alloc (.cells (cellsM m po cap) 33)) (.cells cZ 33)
  simp only [World.size_alloc] at h2
  exact h2
/-- The blocks are as they were behind what leaves them alone. -/
theorem Two.step {w W W' : World} {m : M} {po : Option Addr} {cap : Nat} {cZ : Array Value} (h : Two w W m po cap cZ) (hb : Below W.heap.size W W') : Two w W' m po cap cZ :=
  ⟨(hb.block _ (by have := h.lt; omega)).trans h.box, (hb.block _ h.lt).trans h.res, after h.bel hb⟩
theorem Two.cellAt {w W : World} {m : M} {po : Option Addr} {cap : Nat} {cZ : Array Value} (h : Two w W m po cap cZ) (i : Nat) (v : Value) (hv : (#[.int .i64 m.ra, .int .i64 m.rf, .int .i64 m.rB, .int .i64 m.rC, .int .i64 m.rD, .int .i64 m.rE, .int .i64 m.rH, .int .i64 m.rL, .int .i64 m.sp, .int .i64 m.pc, .bool m.ime, .bool m.hal, .string m.rom, .int .i64 m.kind, .int .i64 m.bank, .string m.ram, .int .i64 m.rb, .bool m.on, .int .i64 m.mode, .string m.work, .string m.high, .slice po m.out.length cap, .int .i64 m.cyc] : Array Value)[i]? = some v) : W.cell? ⟨w.heap.size, i, none⟩ = some v ∧ W.frozen? ⟨w.heap.size, i, none⟩ = false :=
  ⟨celM h.box i v hv, frozen_of_row _ _ _ _ _ h.box⟩
/-- Nothing but block B has turned. -/
theorem Two.turn {w W W' : World} {m m' : M} {po po' : Option Addr} {cap cap' : Nat} {cZ : Array Value} (h : Two w W m po cap cZ) (hg : W.grownBy W' (some w.heap.size)) (hbox : W'.heap[w.heap.size]? = some (.cells (cellsM m' po' cap') 33 (0, 0))) : Two w W' m' po' cap' cZ :=
  ⟨hbox, (hg.block _ h.lt (by simp)).trans h.res, h.bel.trans ⟨hg.os, hg.tape, hg.output, hg.size, fun k hk => hg.block k (by have := h.lt; omega) (by simp; omega)⟩⟩
theorem Two.last {w W : World} {m : M} {po : Option Addr} {cap : Nat} {cZ : Array Value} (h : Two w W m po cap cZ) : (W.setRow (w.heap.size + 1) (cellsM m po cap)).heap[w.heap.size + 1]? = some (.cells (cellsM m po cap) 33) ∧ Below w.heap.size w (W.setRow (w.heap.size + 1) (cellsM m po cap)) :=
  ⟨heap_row h.res, below_row h.bel (by omega)⟩
/-- A row of the call's own that a call has grown on a fresh block. -/
theorem Two.grown {w W W6 : World} {m : M} {po : Option Addr} {cap : Nat} {cZ : Array Value} (h : Two w W m po cap cZ) (o : Obj) (hg : (W.alloc o).grownBy W6 (some W.heap.size)) : Two w W6 m po cap cZ :=
  h.step ⟨hg.os, hg.tape, hg.output, by have := hg.size; simp at this; omega, fun k hk => (hg.block k (by simp; omega) (by simp; omega)).trans (alloc_kept _ _ hk)⟩
theorem Two.put {w W : World} {m : M} {po : Option Addr} {cap : Nat} {cZ : Array Value} (h : Two w W m po cap cZ) (L : List Int) (n : Nat) (hn : n = L.length) (po' : Option Addr) (cap' : Nat) {xs : List Value} (hown : W.ownsRow w.heap.size 2 1 (.slice po' n cap') n xs) :
    Two w (W.setCell ⟨w.heap.size, 21, none⟩ (.slice po' n cap')) { m with out := L } po' cap' cZ ∧ ((W.setCell ⟨w.heap.size, 21, none⟩ (.slice po' n cap')).setRow (w.heap.size + 1) (cellsM { m with out := L } po' cap')).ownsRow w.heap.size 2 1 (.slice po' n cap') n xs := by
  have hg : W.grownBy (W.setCell ⟨w.heap.size, 21, none⟩ (.slice po' n cap')) (some w.heap.size) := ⟨rfl, rfl, rfl, by rw [Busw.size_set]; exact Nat.le_refl _, fun k _ hk => Below.heap_setCell _ _ _ _ (fun e => hk (by rw [e]))⟩
  have h2 := h.turn hg (put_21 h.box L n hn po' cap')
  have o2 := World.ownsRow.kept (row := some w.heap.size) hown hg (.inr (row_ne hown h.box))
  exact ⟨h2, World.ownsRow.kept (row := some (w.heap.size + 1)) o2 (set_row_grown _ _ _) (.inr (row_ne o2 h2.res))⟩
set_option maxHeartbeats 2000000 in
theorem copy_any (m : M) (po : Option Addr) (cap : Nat) (w : World) (hlen : m.out.length ≤ 1048576) (hN : Sl w po m.out cap) :
    Calls Tryz.prog 37 #[.agg (cellsM m po cap)] w fun e w' => (∃ po' cap', e = .returned (.agg (cellsM m po' cap')) ∧ w'.ownsRow w.heap.size 2 1 (.slice po' m.out.length cap') m.out.length (outC m.out)) ∧ Below w.heap.size w w' := by
  have hz := zeroM
  have H0 : Hid (∀ W, Below w.heap.size w W → Sl W po m.out cap) := fun W h => hN.below h
  have HL : Hid (m.out.length ≤ 1048576) := hlen
  clear hN hlen
  obtain ⟨cM, hcM⟩ : ∃ c, c = cellsM m po cap := ⟨_, rfl⟩
  obtain ⟨cZ, hcZ⟩ : ∃ c, c = cellsM Z0 none 0 := ⟨_, rfl⟩
  have HM : Hid (cM = cellsM m po cap) := hcM
  have HZ : Hid (cZ = cellsM Z0 none 0) := hcZ
  rw [← hcM]
  rw [← hcZ] at hz
  clear hcM hcZ
  go_enter Tryz.func37, Tryz.ntmps37
  go_upto_region 1 with fail
  have h2 := two_enter w m po cap cM cZ HM.out
  generalize (w.alloc (.cells cM 33)).alloc (.cells cZ 33) = W0 at *
  have H2 : Hid (Two w W0 m po cap cZ) := h2
  obtain ⟨q21, f21⟩ := h2.cellAt 21 (.slice po m.out.length cap) rfl
  have hlt := h2.lt
  have hlt0 : w.heap.size < W0.heap.size := by omega
  clear h2 hz
  go_wp2_with (at_builtin; refine append_sl rfl _ _ rfl w.heap.size _ 0 [] rfl (World.ownsRow_lit W0 #[] 0 ?c1 (Nat.zero_le _) rfl) po m.out cap rfl ?c2 ?c3 ?c4 ?_)
  case c1 => omega
  case c2 => exact H0.out _ (grow H2.out.bel _)
  case c3 => have := HL.out; omega
  case c4 => simp; omega
  intro v' W6 hown hgrow
  obtain ⟨po', cap', rfl⟩ := own_slice hown
  have h6 := H2.out.grown _ hgrow
  obtain ⟨q6, f6⟩ := h6.cellAt 21 (.slice po m.out.length cap) rfl
  have H7 : Hid _ := h6.put m.out _ rfl po' cap' hown
  clear h6 hown hgrow
  go_upto_region 2 with fail
  refine wp_region_list ?_
  refine wpList_load_row rfl 33 _ rfl w.heap.size rfl _ _ (0, 0) _ H7.out.1.box Tryz.underlying33 rfl (infoMs _ _ _) ?_
  refine wpList_store_row rfl 33 _ _ rfl (w.heap.size + 1) _ rfl rfl _ _ H7.out.1.res (infoMs _ _ _) (by rw [HZ.out, size_M, size_M]) (one_M _ _ _) ?_
  go_wp2
  exact bodyPost_ret (v := .agg (cellsM m po' cap')) (results_cell_row Tryz.results37 _ _ (w.heap.size + 1) _ _ (0, 0) _ rfl H7.out.1.last.1 Tryz.underlying33 rfl (infoMs _ _ _)) rfl ⟨⟨po', cap', rfl, H7.out.2⟩, H7.out.1.last.2⟩
theorem Two.grown2 {w W W6 : World} {m : M} {po : Option Addr} {cap n : Nat} {cZ : Array Value} {v : Value} {xs : List Value} (h : Two w W m po cap cZ) (hown : W.ownsRow w.heap.size 2 1 v n xs) (o : Obj) (hg : (W.alloc o).grownBy W6 v.ownBlock) : Two w W6 m po cap cZ :=
  ⟨(hg.block _ (by simp; have := h.lt; omega) (fun e => row_ne hown h.box e.symm)).trans ((alloc_kept _ _ (by have := h.lt; omega)).trans h.box),
   (hg.block _ (by simp; have := h.lt; omega) (fun e => row_ne hown h.res e.symm)).trans ((alloc_kept _ _ h.lt).trans h.res),
   h.bel.trans ⟨hg.os, hg.tape, hg.output, by have := hg.size; simp at this; omega, fun k hk => (hg.block k (by simp; have := h.lt; omega) (fun e => by have := (hown.lt k e.symm).1; omega)).trans (alloc_kept _ _ (by have := h.lt; omega))⟩⟩
def SPost (w w' : World) (m : M) (po : Option Addr) (cap : Nat) (r : Option M) (e : Ending) : Prop :=
  ((∃ m' po' cap', r = some m' ∧ e = .returned (.tuple #[.agg (cellsM m' po' cap'), .bool true]) ∧ Sl w' po' m'.out cap' ∧ (po' = po ∨ ∀ p, po' = some p → w.heap.size ≤ p.block)) ∨ (r = none ∧ e = .returned (.tuple #[.agg (cellsM m po cap), .bool false]))) ∧ Below w.heap.size w w'
theorem own_sl {w : World} {base n cap : Nat} {po : Option Addr} {L : List Int} (h : w.ownsRow base 2 1 (.slice po n cap) n (outC L)) (hn : n = L.length) : Sl w po L cap := by
  subst hn
  rcases h.2 with ⟨h0, hl⟩ | ⟨g, c, cur, hv, hb, hg, h1, h2, h3, h4⟩
  · injection h0 with e1 e2 e3
    exact .inl ⟨e1, List.length_eq_zero_iff.1 hl, e3⟩
  · cases hv
    refine .inr ⟨g, 0, rfl, fun i hi => ⟨(Array.getElem?_eq_some_iff.1 hg).1, ?_⟩⟩
    have hc : cur[i]? = some (.int .i64 L[i]) := by
      have e : (outC L)[i]? = some (.int .i64 L[i]) := by simp [outC, hi]
      rw [← h4, Nat.mul_one, List.getElem?_take_of_lt hi] at e
      simpa using e
    rw [Nat.zero_add]
    exact cel hg i _ hc
set_option maxHeartbeats 400000 in
theorem sw_work (m : M) (po : Option Addr) (cap : Nat) (addr v : Int) (w : World) (hr : Rt m) (hN : Sl w po m.out cap) (a0 : inB addr 49152 49407 = true) (v0 : inB v 0 255 = true) :
    Calls Tryz.prog 110 #[.agg (cellsM m po cap), .int .i64 addr, .int .i64 v] w fun e w' => SPost w w' m po cap (wrM m addr v) e := by
  have hz := zeroM
  have H0 : Hid (∀ W, Below w.heap.size w W → Sl W po m.out cap) := fun W h => hN.below h
  obtain ⟨q0, q1⟩ := of_decide_eq_true a0
  obtain ⟨u0, u1⟩ := of_decide_eq_true v0
  have c2 := fun w => put_spec m.work 256 hr.work (by decide) (addr - 49152) v (by omega) (by omega) u0 u1 w
  obtain ⟨r, hrr⟩ : ∃ r, r = wrM m addr v := ⟨_, rfl⟩
  have HRR : Hid (r = wrM m addr v) := hrr
  rw [← hrr]
  clear hrr
  obtain ⟨cM, hcM⟩ : ∃ c, c = cellsM m po cap := ⟨_, rfl⟩
  obtain ⟨cZ, hcZ⟩ : ∃ c, c = cellsM Z0 none 0 := ⟨_, rfl⟩
  have HM : Hid (cM = cellsM m po cap) := hcM
  have HZ : Hid (cZ = cellsM Z0 none 0) := hcZ
  rw [← hcM]
  rw [← hcZ] at hz
  clear hcM hcZ hN
  go_enter Tryz.func110, Tryz.ntmps110
  go_upto_region 2 with fail
  have h2 := two_enter w m po cap cM cZ HM.out
  generalize (w.alloc (.cells cM 33)).alloc (.cells cZ 33) = W0 at *
  have H2 : Hid (Two w W0 m po cap cZ) := h2
  have hlt := h2.lt
  have hlt0 : w.heap.size < W0.heap.size := by omega
  obtain ⟨q, f⟩ := h2.cellAt 19 (.string m.work) rfl
  obtain ⟨m', HQ0, hout, HE0⟩ : ∃ m', wrM m addr v = some m' ∧ m'.out = m.out ∧ ∀ o, Two w ((W0.setCell ⟨w.heap.size, 19, none⟩ (.string (putB m.work (addr - 49152) v))).alloc o).drew m' po cap cZ :=
    ⟨{ m with work := putB m.work (addr - 49152) v }, by unfold wrM; rw [if_pos a0], rfl, fun o => h2.turn (set_grown ..) (by
      show ((W0.setCell ⟨w.heap.size, 19, none⟩ _).alloc o).heap[w.heap.size]? = _
      rw [alloc_kept _ _ (by rw [Busw.size_set]; exact hlt0)]
      exact put_19 h2.box _)⟩
  have HQ : Hid (r = some m') := HRR.out.trans HQ0
  have HE : Hid (∀ o, Two w ((W0.setCell ⟨w.heap.size, 19, none⟩ (.string (putB m.work (addr - 49152) v))).alloc o).drew m' po cap cZ) := HE0
  have HO : Hid (m'.out = m.out) := hout
  clear h2 hz hr v0 HQ0 hout HE0
  generalize putB m.work (addr - 49152) v = nw at *
  generalize m.work = ow at *
  go_upto_region 10 with first | (go_at_call 36; refine (l1In_any _ _ _ _).mono ?_; rintro e w' ⟨rfl, hw'⟩; have hw' := hw'.symm; subst hw'; rw [a0]) | (go_at_call 176; refine (c2 _).mono ?_; rintro e w' ⟨rfl, p1, rfl⟩)
  have HT := HE
  replace HT : Hid (Two w ((W0.setCell ⟨w.heap.size, 19, none⟩ (.string nw)).alloc p1).drew m' po cap cZ) := HE.out p1
  have HSl : Hid (Sl (((W0.setCell ⟨w.heap.size, 19, none⟩ (.string nw)).alloc p1).drew.setRow (w.heap.size + 1) (cellsM m' po cap)) po m'.out cap) := by show Sl _ _ _ _; rw [HO.out]; exact H0.out _ HT.out.last.2
  refine wp_region_list ?_
  refine wpList_load_row rfl 33 _ rfl w.heap.size rfl _ _ (0, 0) _ HT.out.box Tryz.underlying33 rfl (infoMs _ _ _) ?_
  refine wpList_store_row rfl 33 _ _ rfl (w.heap.size + 1) _ rfl rfl _ _ HT.out.res (infoMs _ _ _) (by rw [HZ.out, size_M, size_M]) (one_M _ _ _) ?_
  go_wp2
  exact bodyPost_ret (v := .tuple #[.agg (cellsM m' po cap), .bool true]) (results_two Tryz.results110 _ _ (w.heap.size + 1) _ _ (0, 0) _ _ rfl rfl HT.out.last.1 Tryz.underlying33 rfl (infoMs _ _ _)) rfl ⟨.inl ⟨m', po, cap, HQ.out, rfl, HSl.out, .inl rfl⟩, HT.out.last.2⟩
set_option maxHeartbeats 400000 in
theorem sw_high (m : M) (po : Option Addr) (cap : Nat) (addr v : Int) (w : World) (hr : Rt m) (hN : Sl w po m.out cap) (b0 : inB addr 49152 49407 = false) (a0 : inB addr 65408 65534 = true) (v0 : inB v 0 255 = true) :
    Calls Tryz.prog 110 #[.agg (cellsM m po cap), .int .i64 addr, .int .i64 v] w fun e w' => SPost w w' m po cap (wrM m addr v) e := by
  have hz := zeroM
  have H0 : Hid (∀ W, Below w.heap.size w W → Sl W po m.out cap) := fun W h => hN.below h
  obtain ⟨q0, q1⟩ := of_decide_eq_true a0
  obtain ⟨u0, u1⟩ := of_decide_eq_true v0
  have c2 := fun w => put_spec m.high 127 hr.high (by decide) (addr - 65408) v (by omega) (by omega) u0 u1 w
  obtain ⟨r, hrr⟩ : ∃ r, r = wrM m addr v := ⟨_, rfl⟩
  have HRR : Hid (r = wrM m addr v) := hrr
  rw [← hrr]
  clear hrr
  obtain ⟨cM, hcM⟩ : ∃ c, c = cellsM m po cap := ⟨_, rfl⟩
  obtain ⟨cZ, hcZ⟩ : ∃ c, c = cellsM Z0 none 0 := ⟨_, rfl⟩
  have HM : Hid (cM = cellsM m po cap) := hcM
  have HZ : Hid (cZ = cellsM Z0 none 0) := hcZ
  rw [← hcM]
  rw [← hcZ] at hz
  clear hcM hcZ hN
  go_enter Tryz.func110, Tryz.ntmps110
  go_upto_region 2 with fail
  have h2 := two_enter w m po cap cM cZ HM.out
  generalize (w.alloc (.cells cM 33)).alloc (.cells cZ 33) = W0 at *
  have H2 : Hid (Two w W0 m po cap cZ) := h2
  have hlt := h2.lt
  have hlt0 : w.heap.size < W0.heap.size := by omega
  obtain ⟨q, f⟩ := h2.cellAt 20 (.string m.high) rfl
  obtain ⟨m', HQ0, hout, HE0⟩ : ∃ m', wrM m addr v = some m' ∧ m'.out = m.out ∧ ∀ o, Two w ((W0.setCell ⟨w.heap.size, 20, none⟩ (.string (putB m.high (addr - 65408) v))).alloc o).drew m' po cap cZ :=
    ⟨{ m with high := putB m.high (addr - 65408) v }, by unfold wrM; rw [if_neg (by rw [b0]; decide), if_pos a0], rfl, fun o => h2.turn (set_grown ..) (by
      show ((W0.setCell ⟨w.heap.size, 20, none⟩ _).alloc o).heap[w.heap.size]? = _
      rw [alloc_kept _ _ (by rw [Busw.size_set]; exact hlt0)]
      exact put_20 h2.box _)⟩
  have HQ : Hid (r = some m') := HRR.out.trans HQ0
  have HE : Hid (∀ o, Two w ((W0.setCell ⟨w.heap.size, 20, none⟩ (.string (putB m.high (addr - 65408) v))).alloc o).drew m' po cap cZ) := HE0
  have HO : Hid (m'.out = m.out) := hout
  clear h2 hz hr v0 HQ0 hout HE0
  generalize putB m.high (addr - 65408) v = nw at *
  generalize m.high = ow at *
  go_upto_region 10 with first | (go_at_call 36; refine (l1In_any _ _ _ _).mono ?_; rintro e w' ⟨rfl, hw'⟩; have hw' := hw'.symm; subst hw'; first | rw [b0] | rw [a0]) | (go_at_call 176; refine (c2 _).mono ?_; rintro e w' ⟨rfl, p1, rfl⟩)
  have HT := HE
  replace HT : Hid (Two w ((W0.setCell ⟨w.heap.size, 20, none⟩ (.string nw)).alloc p1).drew m' po cap cZ) := HE.out p1
  have HSl : Hid (Sl (((W0.setCell ⟨w.heap.size, 20, none⟩ (.string nw)).alloc p1).drew.setRow (w.heap.size + 1) (cellsM m' po cap)) po m'.out cap) := by show Sl _ _ _ _; rw [HO.out]; exact H0.out _ HT.out.last.2
  refine wp_region_list ?_
  refine wpList_load_row rfl 33 _ rfl w.heap.size rfl _ _ (0, 0) _ HT.out.box Tryz.underlying33 rfl (infoMs _ _ _) ?_
  refine wpList_store_row rfl 33 _ _ rfl (w.heap.size + 1) _ rfl rfl _ _ HT.out.res (infoMs _ _ _) (by rw [HZ.out, size_M, size_M]) (one_M _ _ _) ?_
  go_wp2
  exact bodyPost_ret (v := .tuple #[.agg (cellsM m' po cap), .bool true]) (results_two Tryz.results110 _ _ (w.heap.size + 1) _ _ (0, 0) _ _ rfl rfl HT.out.last.1 Tryz.underlying33 rfl (infoMs _ _ _)) rfl ⟨.inl ⟨m', po, cap, HQ.out, rfl, HSl.out, .inl rfl⟩, HT.out.last.2⟩
set_option maxHeartbeats 400000 in
theorem sw_full (m : M) (po : Option Addr) (cap : Nat) (addr v : Int) (w : World) (hr : Rt m) (hN : Sl w po m.out cap) (ha : addr = 65281) (hl : m.out.length = 100) :
    Calls Tryz.prog 110 #[.agg (cellsM m po cap), .int .i64 addr, .int .i64 v] w fun e w' => SPost w w' m po cap (wrM m addr v) e := by
  have hz := zeroM
  have H0 : Hid (∀ W, Below w.heap.size w W → Sl W po m.out cap) := fun W h => hN.below h
  subst ha
  have b0 : inB 65281 49152 49407 = false := by decide
  have b1 : inB 65281 65408 65534 = false := by decide
  have HQ : Hid (wrM m 65281 v = none) := by show _ = _; unfold wrM; rw [if_neg (by decide), if_neg (by decide), if_pos rfl, if_pos (by omega)]
  obtain ⟨r, hrr⟩ : ∃ r, r = wrM m 65281 v := ⟨_, rfl⟩
  have HRR : Hid (r = wrM m 65281 v) := hrr
  rw [← hrr]
  clear hrr
  obtain ⟨cM, hcM⟩ : ∃ c, c = cellsM m po cap := ⟨_, rfl⟩
  obtain ⟨cZ, hcZ⟩ : ∃ c, c = cellsM Z0 none 0 := ⟨_, rfl⟩
  have HM : Hid (cM = cellsM m po cap) := hcM
  have HZ : Hid (cZ = cellsM Z0 none 0) := hcZ
  rw [← hcM]
  rw [← hcZ] at hz
  clear hcM hcZ hN
  go_enter Tryz.func110, Tryz.ntmps110
  go_upto_region 2 with fail
  have h2 := two_enter w m po cap cM cZ HM.out
  generalize (w.alloc (.cells cM 33)).alloc (.cells cZ 33) = W0 at *
  have H2 : Hid (Two w W0 m po cap cZ) := h2
  have hlt := h2.lt
  have hlt0 : w.heap.size < W0.heap.size := by omega
  obtain ⟨q, f⟩ := h2.cellAt 21 (.slice po m.out.length cap) rfl
  have HT : Hid (Two w W0 m po cap cZ) := h2
  clear h2 hz hr
  rw [hl] at q
  go_upto_region 8 with (go_at_call 36; refine (l1In_any _ _ _ _).mono ?_; rintro e w' ⟨rfl, hw'⟩; have hw' := hw'.symm; subst hw'; first | rw [b0] | rw [b1])
  refine wp_region_list ?_
  refine wpList_load_row rfl 33 _ rfl w.heap.size rfl _ _ (0, 0) _ HT.out.box Tryz.underlying33 rfl (infoMs _ _ _) ?_
  refine wpList_store_row rfl 33 _ _ rfl (w.heap.size + 1) _ rfl rfl _ _ HT.out.res (infoMs _ _ _) (by rw [HZ.out, size_M, size_M]) (one_M _ _ _) ?_
  go_wp2
  exact bodyPost_ret (v := .tuple #[.agg (cellsM m po cap), .bool false]) (results_two Tryz.results110 _ _ (w.heap.size + 1) _ _ (0, 0) _ _ rfl rfl HT.out.last.1 Tryz.underlying33 rfl (infoMs _ _ _)) rfl ⟨.inr ⟨HRR.out.trans HQ.out, rfl⟩, HT.out.last.2⟩
set_option maxHeartbeats 400000 in
theorem sw_out (m : M) (po : Option Addr) (cap : Nat) (addr v : Int) (w : World) (hr : Rt m) (hN : Sl w po m.out cap) (ha : addr = 65281) (hl : m.out.length < 100) :
    Calls Tryz.prog 110 #[.agg (cellsM m po cap), .int .i64 addr, .int .i64 v] w fun e w' => SPost w w' m po cap (wrM m addr v) e := by
  have hz := zeroM
  have H0 : Hid (∀ W, Below w.heap.size w W → Sl W po m.out cap) := fun W h => hN.below h
  subst ha
  have b0 : inB 65281 49152 49407 = false := by decide
  have b1 : inB 65281 65408 65534 = false := by decide
  obtain ⟨m', hm'⟩ : ∃ x, x = { m with out := m.out ++ [v] } := ⟨_, rfl⟩
  have HQ : Hid (wrM m 65281 v = some m') := by show _ = _; unfold wrM; rw [if_neg (by decide), if_neg (by decide), if_pos rfl, if_neg (by omega), hm']
  obtain ⟨i0, hi, hz0, hz1, hz2⟩ := Busw.info_parts Busw.info2
  obtain ⟨r, hrr⟩ : ∃ r, r = wrM m 65281 v := ⟨_, rfl⟩
  have HRR : Hid (r = wrM m 65281 v) := hrr
  rw [← hrr]
  clear hrr
  obtain ⟨cM, hcM⟩ : ∃ c, c = cellsM m po cap := ⟨_, rfl⟩
  obtain ⟨cZ, hcZ⟩ : ∃ c, c = cellsM Z0 none 0 := ⟨_, rfl⟩
  have HM : Hid (cM = cellsM m po cap) := hcM
  have HZ : Hid (cZ = cellsM Z0 none 0) := hcZ
  rw [← hcM]
  rw [← hcZ] at hz
  clear hcM hcZ hN
  go_enter Tryz.func110, Tryz.ntmps110
  go_upto_region 2 with fail
  have h2 := two_enter w m po cap cM cZ HM.out
  generalize (w.alloc (.cells cM 33)).alloc (.cells cZ 33) = W0 at *
  have H2 : Hid (Two w W0 m po cap cZ) := h2
  have hlt := h2.lt
  have hlt0 : w.heap.size < W0.heap.size := by omega
  obtain ⟨q, f⟩ := h2.cellAt 21 (.slice po m.out.length cap) rfl
  clear h2 hz hr
  have e1 : ¬ (m.out.length : Int) = 100 := by omega
  have e2 : ((m.out.length : Int) == 100) = false := by simpa using e1
  go_wp2_with first | (go_at_call 36; refine (l1In_any _ _ _ _).mono ?_; rintro e w' ⟨rfl, hw'⟩; have hw' := hw'.symm; subst hw'; first | rw [b0] | rw [b1]) | (at_builtin; refine append_sl rfl _ _ rfl w.heap.size _ 0 [] rfl (World.ownsRow_lit W0 #[] 0 ?c1 (Nat.zero_le _) rfl) po m.out cap rfl ?c2 ?c3 ?c4 ?_)
  case c1 => omega
  case c2 => exact H0.out _ (grow H2.out.bel _)
  case c3 => omega
  case c4 => simp; omega
  intro v' W6 hown hgrow
  have h6 := H2.out.grown _ hgrow
  have HR6 : Hid (W6.ownsRow w.heap.size 2 1 v' m.out.length (outC m.out)) := hown
  have H6 : Hid (Two w W6 m po cap cZ) := h6
  obtain ⟨q6, f6⟩ := h6.cellAt 21 (.slice po m.out.length cap) rfl
  have hlt6 : w.heap.size + 1 < W6.heap.size := h6.lt
  have hlt60 : w.heap.size < W6.heap.size := by omega
  clear h6 hown hgrow q f hlt hlt0 H2
  go_wp2_with (at_builtin; refine wpList_append_own _ rfl _ _ 26 rfl w.heap.size 2 i0 (.int .i64 0) 1 8 Tryz.underlying26 hi hz0 hz1 hz2 rfl (by decide) _ _ _ rfl (HR6.out.alloc _) ⟨W6.heap.size, 0, none⟩ 1 1 [.int .i64 v] rfl rfl ?d1 ?d2 ?d3 ?d4 ?d5 ?_)
  case d1 =>
    intro j u hj
    match j, hj with
    | 0, hj => simp at hj; subst hj; simp [Addr.add]
  case d2 => intro u hu; simp at hu; subst hu; rfl
  case d3 => unfold maxLen; omega
  case d4 => omega
  case d5 => simp; omega
  intro v2 W7 hown7 hgrow7 _
  have h7 := H6.out.grown2 HR6.out _ hgrow7
  obtain ⟨po', cap', rfl⟩ := own_slice hown7
  obtain ⟨q7, f7⟩ := h7.cellAt 21 (.slice po m.out.length cap) rfl
  obtain ⟨h8, h9⟩ := h7.put (m.out ++ [v]) (m.out.length + 1) (by simp) po' cap' hown7
  rw [← hm'] at h8 h9
  have HT : Hid (Two w (W7.setCell ⟨w.heap.size, 21, none⟩ (.slice po' (m.out.length + 1) cap')) m' po' cap' cZ) := h8
  rw [← outC_snoc] at h9
  have hmo : m'.out = m.out ++ [v] := by rw [hm']
  have HSl : Hid (Sl ((W7.setCell ⟨w.heap.size, 21, none⟩ (.slice po' (m.out.length + 1) cap')).setRow (w.heap.size + 1) (cellsM m' po' cap')) po' m'.out cap') := by show Sl _ _ _ _; rw [hmo]; exact own_sl h9 (by simp)
  have HFr : Hid (∀ p, po' = some p → w.heap.size ≤ p.block) := fun p e => own_at hown7 p e
  clear h7 h8 h9 hown7 hgrow7 hmo hm'
  go_upto_region 10 with fail
  refine wp_region_list ?_
  refine wpList_load_row rfl 33 _ rfl w.heap.size rfl _ _ (0, 0) _ HT.out.box Tryz.underlying33 rfl (infoMs _ _ _) ?_
  refine wpList_store_row rfl 33 _ _ rfl (w.heap.size + 1) _ rfl rfl _ _ HT.out.res (infoMs _ _ _) (by rw [HZ.out, size_M, size_M]) (one_M _ _ _) ?_
  go_wp2
  exact bodyPost_ret (v := .tuple #[.agg (cellsM m' po' cap'), .bool true]) (results_two Tryz.results110 _ _ (w.heap.size + 1) _ _ (0, 0) _ _ rfl rfl HT.out.last.1 Tryz.underlying33 rfl (infoMs _ _ _)) rfl ⟨.inl ⟨m', po', cap', HRR.out.trans HQ.out, rfl, HSl.out, .inr HFr.out⟩, HT.out.last.2⟩
set_option maxHeartbeats 400000 in
theorem sw_cart (m : M) (po : Option Addr) (cap : Nat) (addr v : Int) (w : World) (hr : Rt m) (hN : Sl w po m.out cap) (b0 : inB addr 49152 49407 = false) (b1 : inB addr 65408 65534 = false) (b2 : ¬ addr = 65281) (a0 : inB addr 0 65535 = true) (v0 : inB v 0 255 = true) :
    Calls Tryz.prog 110 #[.agg (cellsM m po cap), .int .i64 addr, .int .i64 v] w fun e w' => SPost w w' m po cap (wrM m addr v) e := by
  have hz := zeroM
  have H0 : Hid (∀ W, Below w.heap.size w W → Sl W po m.out cap) := fun W h => hN.below h
  have HC : Hid (∀ W, Calls Tryz.prog 177 #[.agg #[.string m.rom, .int .i64 m.kind, .int .i64 m.bank, .string m.ram, .int .i64 m.rb, .bool m.on, .int .i64 m.mode], .int .i64 addr, .int .i64 v] W fun e w' => e = .returned (wrote m.rom m.kind m.bank m.ram m.rb m.on m.mode addr v) ∧ Below W.heap.size W w') := fun W => CartU.swrite_right m.rom m.kind m.bank m.ram m.rb m.on m.mode addr v W hr.rom hr.ram hr.cart a0 v0
  have b2' : (addr == 65281) = false := by simpa using b2
  obtain ⟨r, hrr⟩ : ∃ r, r = wrM m addr v := ⟨_, rfl⟩
  have HRR : Hid (r = wrM m addr v) := hrr
  rw [← hrr]
  clear hrr
  obtain ⟨cM, hcM⟩ : ∃ c, c = cellsM m po cap := ⟨_, rfl⟩
  obtain ⟨cZ, hcZ⟩ : ∃ c, c = cellsM Z0 none 0 := ⟨_, rfl⟩
  have HM : Hid (cM = cellsM m po cap) := hcM
  have HZ : Hid (cZ = cellsM Z0 none 0) := hcZ
  rw [← hcM]
  rw [← hcZ] at hz
  clear hcM hcZ hN
  go_enter Tryz.func110, Tryz.ntmps110
  go_upto_region 2 with fail
  have h2 := two_enter w m po cap cM cZ HM.out
  generalize (w.alloc (.cells cM 33)).alloc (.cells cZ 33) = W0 at *
  have H2 : Hid (Two w W0 m po cap cZ) := h2
  have hlt := h2.lt
  have hlt0 : w.heap.size < W0.heap.size := by omega
  obtain ⟨q12, f12⟩ := h2.cellAt 12 (.string m.rom) rfl
  obtain ⟨q13, f13⟩ := h2.cellAt 13 (.int .i64 m.kind) rfl
  obtain ⟨q14, f14⟩ := h2.cellAt 14 (.int .i64 m.bank) rfl
  obtain ⟨q15, f15⟩ := h2.cellAt 15 (.string m.ram) rfl
  obtain ⟨q16, f16⟩ := h2.cellAt 16 (.int .i64 m.rb) rfl
  obtain ⟨q17, f17⟩ := h2.cellAt 17 (.bool m.on) rfl
  obtain ⟨q18, f18⟩ := h2.cellAt 18 (.int .i64 m.mode) rfl
  obtain ⟨m', HQ0, hout, HE0⟩ : ∃ m', wrM m addr v = some m' ∧ m'.out = m.out ∧ ∀ w1, Below W0.heap.size W0 w1 → Two w (((((((w1.setCell ⟨w.heap.size, 12, none⟩ (.string m.rom)).setCell ⟨w.heap.size, 13, none⟩ (.int .i64 m.kind)).setCell ⟨w.heap.size, 14, none⟩ (.int .i64 (wBank m.kind m.bank addr v))).setCell ⟨w.heap.size, 15, none⟩ (.string (wRam m.kind m.ram m.rb m.on m.mode addr v))).setCell ⟨w.heap.size, 16, none⟩ (.int .i64 (wRb m.kind m.rb addr v))).setCell ⟨w.heap.size, 17, none⟩ (.bool (wOn m.kind m.on addr v))).setCell ⟨w.heap.size, 18, none⟩ (.int .i64 (wMode m.kind m.mode addr v))) m' po cap cZ :=
    ⟨{ m with bank := wBank m.kind m.bank addr v, ram := wRam m.kind m.ram m.rb m.on m.mode addr v, rb := wRb m.kind m.rb addr v, on := wOn m.kind m.on addr v, mode := wMode m.kind m.mode addr v }, by unfold wrM; rw [if_neg (by rw [b0]; decide), if_neg (by rw [b1]; decide), if_neg b2], rfl, fun w1 hb => by
      have hg0 : w1.grownBy w1 (some w.heap.size) := ⟨rfl, rfl, rfl, Nat.le_refl _, fun _ _ _ => rfl⟩
      exact (h2.step hb).turn (set_step (i := 18) (v := .int .i64 (wMode m.kind m.mode addr v)) (set_step (i := 17) (v := .bool (wOn m.kind m.on addr v)) (set_step (i := 16) (v := .int .i64 (wRb m.kind m.rb addr v)) (set_step (i := 15) (v := .string (wRam m.kind m.ram m.rb m.on m.mode addr v)) (set_step (i := 14) (v := .int .i64 (wBank m.kind m.bank addr v)) (set_step (i := 13) (v := .int .i64 m.kind) (set_step (i := 12) (v := .string m.rom) hg0))))))) (put_cart (h2.step hb).box _ _ _ _ _)⟩
  have HQ : Hid (r = some m') := HRR.out.trans HQ0
  have HE : Hid (∀ w1, Below W0.heap.size W0 w1 → Two w (((((((w1.setCell ⟨w.heap.size, 12, none⟩ (.string m.rom)).setCell ⟨w.heap.size, 13, none⟩ (.int .i64 m.kind)).setCell ⟨w.heap.size, 14, none⟩ (.int .i64 (wBank m.kind m.bank addr v))).setCell ⟨w.heap.size, 15, none⟩ (.string (wRam m.kind m.ram m.rb m.on m.mode addr v))).setCell ⟨w.heap.size, 16, none⟩ (.int .i64 (wRb m.kind m.rb addr v))).setCell ⟨w.heap.size, 17, none⟩ (.bool (wOn m.kind m.on addr v))).setCell ⟨w.heap.size, 18, none⟩ (.int .i64 (wMode m.kind m.mode addr v))) m' po cap cZ) := HE0
  have HX : Hid (∀ w1, Below W0.heap.size W0 w1 → Two w w1 m po cap cZ) := fun w1 hb => h2.step hb
  have HO : Hid (m'.out = m.out) := hout
  clear h2 hz hr v0 a0 b2 HQ0 hout HE0
  unfold wrote at HC
  generalize wBank m.kind m.bank addr v = x14 at *
  generalize wRam m.kind m.ram m.rb m.on m.mode addr v = x15 at *
  generalize wRb m.kind m.rb addr v = x16 at *
  generalize wOn m.kind m.on addr v = x17 at *
  generalize wMode m.kind m.mode addr v = x18 at *
  go_upto_region 10 with first | (go_at_call 36; refine (l1In_any _ _ _ _).mono ?_; rintro e w' ⟨rfl, hw'⟩; have hw' := hw'.symm; subst hw'; first | rw [b0] | rw [b1]) | (go_at_call 177; refine (HC.out _).mono ?_; rintro e w1 ⟨rfl, hb1⟩; obtain ⟨k12, l12⟩ := (HX.out w1 hb1).cellAt 12 (.string m.rom) rfl; obtain ⟨k13, l13⟩ := (HX.out w1 hb1).cellAt 13 (.int .i64 m.kind) rfl; obtain ⟨k14, l14⟩ := (HX.out w1 hb1).cellAt 14 (.int .i64 m.bank) rfl; obtain ⟨k15, l15⟩ := (HX.out w1 hb1).cellAt 15 (.string m.ram) rfl; obtain ⟨k16, l16⟩ := (HX.out w1 hb1).cellAt 16 (.int .i64 m.rb) rfl; obtain ⟨k17, l17⟩ := (HX.out w1 hb1).cellAt 17 (.bool m.on) rfl; obtain ⟨k18, l18⟩ := (HX.out w1 hb1).cellAt 18 (.int .i64 m.mode) rfl; have HB1 : Hid (Below W0.heap.size W0 w1) := hb1; clear hb1)
  have HT : Hid (Two w (((((((w1.setCell ⟨w.heap.size, 12, none⟩ (.string m.rom)).setCell ⟨w.heap.size, 13, none⟩ (.int .i64 m.kind)).setCell ⟨w.heap.size, 14, none⟩ (.int .i64 x14)).setCell ⟨w.heap.size, 15, none⟩ (.string x15)).setCell ⟨w.heap.size, 16, none⟩ (.int .i64 x16)).setCell ⟨w.heap.size, 17, none⟩ (.bool x17)).setCell ⟨w.heap.size, 18, none⟩ (.int .i64 x18)) m' po cap cZ) := HE.out w1 HB1.out
  have HSl : Hid (Sl ((((((((w1.setCell ⟨w.heap.size, 12, none⟩ (.string m.rom)).setCell ⟨w.heap.size, 13, none⟩ (.int .i64 m.kind)).setCell ⟨w.heap.size, 14, none⟩ (.int .i64 x14)).setCell ⟨w.heap.size, 15, none⟩ (.string x15)).setCell ⟨w.heap.size, 16, none⟩ (.int .i64 x16)).setCell ⟨w.heap.size, 17, none⟩ (.bool x17)).setCell ⟨w.heap.size, 18, none⟩ (.int .i64 x18)).setRow (w.heap.size + 1) (cellsM m' po cap)) po m'.out cap) := by show Sl _ _ _ _; rw [HO.out]; exact H0.out _ HT.out.last.2
  refine wp_region_list ?_
  refine wpList_load_row rfl 33 _ rfl w.heap.size rfl _ _ (0, 0) _ HT.out.box Tryz.underlying33 rfl (infoMs _ _ _) ?_
  refine wpList_store_row rfl 33 _ _ rfl (w.heap.size + 1) _ rfl rfl _ _ HT.out.res (infoMs _ _ _) (by rw [HZ.out, size_M, size_M]) (one_M _ _ _) ?_
  go_wp2
  exact bodyPost_ret (v := .tuple #[.agg (cellsM m' po cap), .bool true]) (results_two Tryz.results110 _ _ (w.heap.size + 1) _ _ (0, 0) _ _ rfl rfl HT.out.last.1 Tryz.underlying33 rfl (infoMs _ _ _)) rfl ⟨.inl ⟨m', po, cap, HQ.out, rfl, HSl.out, .inl rfl⟩, HT.out.last.2⟩
theorem swrite_any (m : M) (po : Option Addr) (cap : Nat) (addr v : Int) (w : World) (hr : Rt m) (hN : Sl w po m.out cap) (a0 : inB addr 0 65535 = true) (v0 : inB v 0 255 = true) :
    Calls Tryz.prog 110 #[.agg (cellsM m po cap), .int .i64 addr, .int .i64 v] w fun e w' => SPost w w' m po cap (wrM m addr v) e := by
  cases h1 : inB addr 49152 49407 with
  | true => exact sw_work m po cap addr v w hr hN h1 v0
  | false =>
    cases h2 : inB addr 65408 65534 with
    | true => exact sw_high m po cap addr v w hr hN h1 h2 v0
    | false =>
      by_cases h3 : addr = 65281
      · have ho := hr.out
        by_cases h4 : m.out.length = 100
        · exact sw_full m po cap addr v w hr hN h3 h4
        · exact sw_out m po cap addr v w hr hN h3 (by omega)
      · exact sw_cart m po cap addr v w hr hN h1 h2 h3 a0 v0
end Go.Proofs.YtkfehdkjeodbmaaGreatDoor.Busy
