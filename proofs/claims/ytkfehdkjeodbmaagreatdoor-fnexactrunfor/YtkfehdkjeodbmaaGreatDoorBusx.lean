/-
  Contracts of ours for slices.Clone at rows of numbers, and for impl.BusWrite.
-/
import Derived.Test.YtkfehdkjeodbmaaGreatDoorBusw
import Derived.Test.YtkfehdkjeodbmaaGreatDoorMachN
import Derived.WalkLawsBesides
import Derived.Deep.Onto
namespace Go.Proofs.YtkfehdkjeodbmaaGreatDoor.Busx
open Go.ChangeShapes Go.WideShapes Go.ChangeAt Go.RowKit Go.Deep
set_option linter.unusedVariables false
set_option linter.unusedSimpArgs false
set_option maxRecDepth 20000
open Signed (inB ret_int ret_bool isByte_any l1In_any)
open Carts CartK CartL CartM CartN CartP CartR CartW CartX CartY Outs Mach MachT MachO MachK MachB Busw
/-- A slice of numbers lies there; nil is nil. -/
def Sl (w : World) (po : Option Addr) (L : List Int) (cap : Nat) : Prop := (po = none ∧ L = [] ∧ cap = 0) ∨ ∃ b off, po = some ⟨b, off, none⟩ ∧ ∀ i (h : i < L.length), b < w.heap.size ∧ w.cell? ⟨b, off + i, none⟩ = some (.int .i64 L[i])
theorem Sl.below {w w' : World} {po : Option Addr} {L : List Int} {cap : Nat} (h : Sl w po L cap) (hb : Below w.heap.size w w') : Sl w' po L cap := by
  rcases h with h | ⟨b, off, rfl, hc⟩
  · exact .inl h
  · exact .inr ⟨b, off, rfl, fun i hi => ⟨Nat.lt_of_lt_of_le (hc i hi).1 hb.size, (hb.cell (p := ⟨b, _, none⟩) (hc i hi).1).trans (hc i hi).2⟩⟩
theorem Sl.row {w : World} {po : Option Addr} {L : List Int} {cap : Nat} (h : Sl w po L cap) : Row w po L := by
  rcases h with ⟨_, h, _⟩ | ⟨b, off, h1, h2⟩
  · exact .inl h
  · by_cases he : L = []
    · exact .inl he
    · exact .inr ⟨b, off, h1, (h2 0 (List.length_pos_iff.2 he)).1, fun i hi => (h2 i hi).2⟩
/-- A row at a place. -/
theorem sl_of_row {w : World} {b off : Nat} {L : List Int} (h : Row w (some ⟨b, off, none⟩) L) (cap : Nat) : Sl w (some ⟨b, off, none⟩) L cap := by
  rcases h with rfl | ⟨b', off', h1, h2, h3⟩
  · exact .inr ⟨b, off, rfl, fun i hi => absurd hi (by simp)⟩
  · cases h1; exact .inr ⟨b, off, rfl, fun i hi => ⟨h2, h3 i hi⟩⟩
set_option maxHeartbeats 1000000 in
theorem clone_any (po : Option Addr) (L : List Int) (cap : Nat) (w : World) (h : Sl w po L cap) (hlen : L.length ≤ 1048576) :
    Calls Tryz.prog 29 #[.slice po L.length cap] w fun e w' => (∃ po' cap', e = .returned (.slice po' L.length cap') ∧ w'.ownsRow w.heap.size 2 1 (.slice po' L.length cap') L.length (outC L)) ∧ Below w.heap.size w w' := by
  obtain ⟨i0, hi, hz0, hz1, hz2⟩ := Busw.info_parts Busw.info2
  have hnil := fun (w : World) (a : Option Addr) (n c : Nat) => Lib.run_eql_slice_nil (P := Tryz.prog) w 26 2 a n c 0 0 Tryz.underlying26
  rcases h with ⟨rfl, rfl, rfl⟩ | ⟨b, off, rfl, hc⟩
  · have HR : Hid (w.ownsRow w.heap.size 2 1 (.slice none 0 0) 0 (outC [])) := World.ownsRow_nil _ _ _ _
    go_enter Tryz.func29, Tryz.ntmps29
    go_wp2
    go_ret
    exact ⟨⟨none, 0, rfl, HR.out⟩, Below.refl _ _⟩
  · have HC : Hid (∀ (o : Obj) j u, (outC L)[j]? = some u → (w.alloc o).cell? ((⟨b, off, none⟩ : Addr).add j) = some u) := fun o j u hu => by
      unfold outC at hu
      rw [List.getElem?_map] at hu
      obtain ⟨z, hz, rfl⟩ := Option.map_eq_some_iff.1 hu
      obtain ⟨hj, rfl⟩ := List.getElem?_eq_some_iff.1 hz
      have e : (⟨b, off, none⟩ : Addr).add j = ⟨b, off + j, none⟩ := by unfold Addr.add; split <;> simp_all
      rw [e]
      exact (((Below.refl _ w).alloc (Nat.le_refl _) o).cell (p := ⟨b, off + j, none⟩) (hc j hj).1).trans (hc j hj).2
    have H1 : Hid (∀ u ∈ outC L, u.oneCell' = true) := fun u hu => by
      obtain ⟨z, _, rfl⟩ := List.mem_map.1 hu; rfl
    have HL : Hid ((outC L).length = L.length * 1) := by show _ = _; simp [outC]
    have R0 : Hid ((w.alloc (.cells #[] 2)).ownsRow w.heap.size 2 1 (.slice (some ⟨w.heap.size, 0, none⟩) 0 0) 0 []) := World.ownsRow_lit w #[] 0 (Nat.le_refl _) (Nat.zero_le _) rfl
    clear hc
    generalize outC L = oc at *
    generalize L.length = n at *
    go_enter Tryz.func29, Tryz.ntmps29
    go_wp2_with (at_builtin; refine wpList_append_own _ rfl _ _ 26 rfl w.heap.size 2 i0 (.int .i64 0) 1 8 Tryz.underlying26 hi hz0 hz1 hz2 rfl (by decide) _ _ _ rfl R0.out ⟨b, off, none⟩ n cap oc rfl HL.out ?c1 ?c2 ?c3 ?c4 ?c5 ?_)
    case c1 => exact HC.out _
    case c2 => exact H1.out
    case c3 => unfold maxLen; omega
    case c4 => omega
    case c5 => simp
    intro v' w6 hown' hgrow _
    have B6 : Hid (Below w.heap.size w w6) := ((Below.refl _ w).alloc (Nat.le_refl _) _).grown hgrow (by simp) (fun k ek => by have := (R0.out.lt k ek).1; omega)
    obtain ⟨po', cap', rfl⟩ : ∃ po' cap', v' = .slice po' n cap' := by
      rcases hown'.2 with ⟨rfl, h0⟩ | ⟨g, cap', cur, hv, _⟩
      · exact ⟨none, 0, by rw [h0]⟩
      · exact ⟨_, _, hv⟩
    have R6 : Hid (w6.ownsRow w.heap.size 2 1 (.slice po' n cap') n oc) := hown'
    clear hown' hgrow
    go_wp2
    go_ret
    exact ⟨⟨po', cap', rfl, R6.out⟩, B6.out⟩
/-- The machine that is none. -/
def Z0 : M := ⟨0, 0, 0, 0, 0, 0, 0, 0, 0, 0, false, false, ⟨#[]⟩, 0, 0, ⟨#[]⟩, 0, false, 0, ⟨#[]⟩, ⟨#[]⟩, [], 0⟩
theorem zeroM (w : World) : (zeroValue 33).run Tryz.prog w = .ok (.agg (cellsM Z0 none 0)) w := by rw [cells_def]; kernel_rfl
theorem builtM : (Tryz.prog.built 33 []) = some (cellsM Z0 none 0) := by rw [cells_def]; kernel_rfl
theorem size_M (m : M) (po : Option Addr) (cap : Nat) : (cellsM m po cap).size = 23 := by rw [cells_def]; rfl
theorem one_M (m : M) (po : Option Addr) (cap : Nat) : (cellsM m po cap).all (·.oneCell') = true := by rw [cells_def]; simp [Value.oneCell']
theorem infoM : (Tryz.prog.info? 33).map (·.size) = some 23 := by kernel_rfl
theorem infoMs (m : M) (po : Option Addr) (cap : Nat) : (Tryz.prog.info? 33).map (·.size) = some (cellsM m po cap).size := by rw [size_M]; exact infoM
def okMM (m : M) : Bool := okM m.ra m.rf m.rB m.rC m.rD m.rE m.rH m.rL m.sp m.pc (okB m.rom m.kind m.bank m.ram m.rb m.on m.mode) m.work.size m.high.size m.out m.cyc
structure Sm (m : M) : Prop where
  rom : m.rom.size ≤ maxLen
  ram : m.ram.size ≤ maxLen
  work : m.work.size ≤ 1048576
  high : m.high.size ≤ 1048576
  out : m.out.length ≤ 1048576
theorem implOk_M (m : M) (po : Option Addr) (cap : Nat) (w : World) (h : Sm m) (hN : Sl w po m.out cap) : Calls Tryz.prog 28 #[.agg (cellsM m po cap)] w fun e w' => e = .returned (.bool (okMM m)) ∧ Below w.heap.size w w' := by
  rw [cells_def]; exact implM_any m.ra m.rf m.rB m.rC m.rD m.rE m.rH m.rL m.sp m.pc m.ime m.hal m.rom m.kind m.bank m.ram m.rb m.on m.mode m.work m.high po m.out cap m.cyc w h.rom h.ram h.work h.high hN.row h.out
theorem specOk_M (m : M) (po : Option Addr) (cap : Nat) (w : World) (h : Sm m) (hN : Sl w po m.out cap) : Calls Tryz.prog 23 #[.agg (cellsM m po cap)] w fun e w' => e = .returned (.bool (okMM m)) ∧ Below w.heap.size w w' := by
  rw [cells_def]; exact specM_any m.ra m.rf m.rB m.rC m.rD m.rE m.rH m.rL m.sp m.pc m.ime m.hal m.rom m.kind m.bank m.ram m.rb m.on m.mode m.work m.high po m.out cap m.cyc w h.rom h.ram h.work h.high hN.row h.out
theorem rt_of {m : M} (h : okMM m = true) (hs : Sm m) : Rt m := by
  have p := okM_parts h
  refine ⟨p.1, p.2.1, p.2.2, ?_, hs.rom, hs.ram⟩
  unfold okMM okM at h
  simp only [Bool.and_eq_true, decide_eq_true_eq] at h
  exact h.1.1.1.2
/-- What BusWrite tells. -/
def bwM (m : M) (addr v : Int) : Option M := if okMM m = true ∧ inB addr 0 65535 = true ∧ inB v 0 255 = true then wrM m addr v else none
theorem results_two {P : Program} {fn : Func} {p q : Tmp} {ty : TypeId} (h : fn.results = #[.cell p ty, .tmp q]) (tmps : Array Value) (w : World) (g : Nat) (t : TypeId) (cs : Array Value) (fr : Nat × Nat) (d : TypeDesc) (v : Value)
    (hp : tmps.getD p undef = .pointer (some ⟨g, 0, none⟩)) (hq : tmps.getD q undef = v) (hg : w.heap[g]? = some (.cells cs t fr))
    (hu : P.underlying ty = some d) (hd : (match d with | .struct _ | .array _ _ => true | _ => false) = true) (hi : (P.info? ty).map (·.size) = some cs.size) :
    (results fn tmps).run P w = .ok (.tuple #[.agg cs, v]) w := MachN.results_two h tmps w g t cs fr d v hp hq hg hu hd hi
theorem wpList_build0 {P : Program} {ops : Array Oper} {rest : List Oper} {o : Oper} {a : Act} {w : World} {Q : Exit → Act → World → Prop} (hg : o.guard = none) (t : TypeId) (ho : o.op = .build t #[]) (cs : Array Value) (hb : P.built t [] = some cs) (h : wpList P ops Q rest (a.put o.dst (.agg cs)) w) : wpList P ops Q (o :: rest) a w :=
  wpList_build hg t #[] ho (by simp [hb]) (by simpa [hb] using h)
theorem own_at {w : World} {base n cap : Nat} {po : Option Addr} {xs : List Value} (h : w.ownsRow base 2 1 (.slice po n cap) n xs) (p : Addr) (e : po = some p) : base ≤ p.block := by
  subst e
  rcases h.2 with ⟨h, _⟩ | ⟨g, c, cur, hv, hb, _⟩
  · cases h
  · cases hv; exact hb
theorem lay {w w1 w2 : World} {m : M} {po po' : Option Addr} {cap cap' : Nat} (HB : Below w.heap.size w w1) (HK : w1.heap[w.heap.size]? = some (.cells (cellsM m po cap) 33 (0, 0))) (hb2 : Below w1.heap.size w1 w2) (own : w2.ownsRow w1.heap.size 2 1 (.slice po' m.out.length cap') m.out.length (outC m.out)) :
    Held (w2.setCell ⟨w.heap.size, 21, none⟩ (.slice po' m.out.length cap')) w.heap.size w.heap.size m po' cap' := by
  have hlt : w.heap.size < w1.heap.size := (Array.getElem?_eq_some_iff.1 HK).1
  have hbox2 : w2.heap[w.heap.size]? = some (.cells (cellsM m po cap) 33 (0, 0)) := (hb2.block _ hlt).trans HK
  have hne := row_ne own hbox2
  refine ⟨put_21 hbox2 m.out _ rfl po' cap', ?_, hne⟩
  exact (World.ownsRow.mono own HB.size).kept (row := some w.heap.size) ⟨rfl, rfl, rfl, by rw [Busw.size_set]; exact Nat.le_refl _, fun k _ hk => Below.heap_setCell _ _ _ _ (fun e => hk (by rw [e]))⟩ (.inr hne)
theorem only_below {w w1 w2 w4 : World} {n cap' : Nat} {po' : Option Addr} {x : Value} {xs : List Value} (HB : Below w.heap.size w w1) (hb2 : Below w1.heap.size w1 w2) (own : w2.ownsRow w1.heap.size 2 1 (.slice po' n cap') n xs) (on : Only (w2.setCell ⟨w.heap.size, 21, none⟩ x) w4 w.heap.size po') : Below w.heap.size w w4 := by
  have h3 : Below w.heap.size w (w2.setCell ⟨w.heap.size, 21, none⟩ x) := (after HB hb2).setCell (Nat.le_refl _) _
  exact ⟨on.os.trans h3.os, on.tape.trans h3.tape, on.output.trans h3.output, Nat.le_trans h3.size on.size, fun k hk => (on.block k (Nat.lt_of_lt_of_le hk h3.size) (by omega) (fun p e => by have := own_at own p e; have := HB.size; omega)).trans (h3.block k hk)⟩
theorem set_row_grown (w : World) (B : Nat) (cs : Array Value) : w.grownBy (w.setRow B cs) (some B) :=
  ⟨rfl, rfl, rfl, by simp [World.setRow], fun k _ hk => by
    have hne : ¬ B = k := fun e => hk (by rw [e])
    simp [World.setRow, Array.getElem?_modify, hne]⟩
end Go.Proofs.YtkfehdkjeodbmaaGreatDoor.Busx
