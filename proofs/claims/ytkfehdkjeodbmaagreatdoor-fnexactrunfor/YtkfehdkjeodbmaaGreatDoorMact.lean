/-
  toMachine, and the row that it lays; machines as one thing.
-/
import Derived.Test.YtkfehdkjeodbmaaGreatDoorBusm
namespace Go.Proofs.YtkfehdkjeodbmaaGreatDoor.Mact
open Go.ChangeShapes Go.WideShapes Go.ChangeAt Go.RowKit Go.Deep
set_option linter.unusedVariables false
set_option linter.unusedSimpArgs false
set_option maxRecDepth 20000
open Carts CartK CartL Outs Mach MachT
set_option maxHeartbeats 1000000 in
theorem toMachine_blk (ra rf rB rC rD rE rH rL sp pc : Int) (ime hal : Bool) (rom : ByteArray) (kind bank : Int) (ram : ByteArray) (rb : Int) (on : Bool) (mode : Int) (work high : ByteArray) (po : Option Addr) (L : List Int) (cap : Nat) (cyc : Int) (w : World) (hN : Row w po L) (hlen : L.length ≤ 1048576) :
    Calls Tryz.prog 8 #[.agg #[.int .i64 ra, .int .i64 rf, .int .i64 rB, .int .i64 rC, .int .i64 rD, .int .i64 rE, .int .i64 rH, .int .i64 rL, .int .i64 sp, .int .i64 pc, .bool ime, .bool hal, .string rom, .int .i64 kind, .int .i64 bank, .string ram, .int .i64 rb, .bool on, .int .i64 mode, .string work, .string high, .slice po L.length cap, .int .i64 cyc]] w fun e w' => e = .returned (.agg #[.int .i64 ra, .int .i64 rf, .int .i64 rB, .int .i64 rC, .int .i64 rD, .int .i64 rE, .int .i64 rH, .int .i64 rL, .int .i64 sp, .int .i64 pc, .bool ime, .bool hal, .string rom, .int .i64 kind, .int .i64 bank, .string ram, .int .i64 rb, .bool on, .int .i64 mode, .string work, .string high, .slice (some ⟨w.heap.size + 1 + 1 + 1 + 1 + 1 + 1 + 1 + 1 + 1, 0, none⟩) L.length L.length, .int .i64 cyc]) ∧ w'.heap[w.heap.size + 1 + 1 + 1 + 1 + 1 + 1 + 1 + 1 + 1]? = some (rowO L) ∧ Below w.heap.size w w' := by
  have c := fun W (h : Row W po L) => toInt64S_any po cap L W h hlen
  have HB : Hid (Row w po L) := hN
  have HR : Hid (∀ W : World, (W.alloc (rowO L)).heap[W.heap.size]? = some (rowO L)) := fun W => heap_alloc_last W _
  clear hN hlen
  obtain ⟨ln, hl⟩ : ∃ ln, ln = L.length := ⟨_, rfl⟩
  obtain ⟨ro, hro⟩ : ∃ ro, ro = rowO L := ⟨_, rfl⟩
  rw [← hro] at HR
  rw [← hl, ← hro] at c
  rw [← hl, ← hro]
  clear hl hro
  go_enter Tryz.func8, Tryz.ntmps8
  go_wp2_with first | (go_at_call 25; refine (toCpu_ex _ _ _ _ _ _ _ _ _ _ _ _ _).mono ?_; rintro e w' ⟨rfl, p1, p2, p3, rfl⟩) | (go_at_call 26; refine (toCart_ex _ _ _ _ _ _ _ _).mono ?_; rintro e w' ⟨rfl, q1, q2, q3, rfl⟩)
  refine Calls.mono (c _ ?_) ?_
  · exact HB.out.below (by repeat (with_reducible first | exact Below.refl _ _ | refine CartL.grow ?_ _ | refine below_drewN ?_ _ | refine Below.drew ?_))
  rintro e W ⟨rfl, hW⟩
  clear c HB
  have hb3 : Below (((w.alloc (.cells #[.int .i64 ra, .int .i64 rf, .int .i64 rB, .int .i64 rC, .int .i64 rD, .int .i64 rE, .int .i64 rH, .int .i64 rL, .int .i64 sp, .int .i64 pc, .bool ime, .bool hal, .string rom, .int .i64 kind, .int .i64 bank, .string ram, .int .i64 rb, .bool on, .int .i64 mode, .string work, .string high, .slice po ln cap, .int .i64 cyc] 28)).alloc (.cells #[.int .i64 0, .int .i64 0, .int .i64 0, .int .i64 0, .int .i64 0, .int .i64 0, .int .i64 0, .int .i64 0, .int .i64 0, .int .i64 0, .bool false, .bool false, .string ⟨#[]⟩, .int .i64 0, .int .i64 0, .string ⟨#[]⟩, .int .i64 0, .bool false, .int .i64 0, .string ⟨#[]⟩, .string ⟨#[]⟩, .slice none 0 0, .int .i64 0] 33)).alloc (.cells #[.int .i64 ra, .int .i64 rf, .int .i64 rB, .int .i64 rC, .int .i64 rD, .int .i64 rE, .int .i64 rH, .int .i64 rL, .int .i64 sp, .int .i64 pc, .bool ime, .bool hal, .string rom, .int .i64 kind, .int .i64 bank, .string ram, .int .i64 rb, .bool on, .int .i64 mode, .string work, .string high, .slice none 0 0, .int .i64 0] 33)).heap.size (((w.alloc (.cells #[.int .i64 ra, .int .i64 rf, .int .i64 rB, .int .i64 rC, .int .i64 rD, .int .i64 rE, .int .i64 rH, .int .i64 rL, .int .i64 sp, .int .i64 pc, .bool ime, .bool hal, .string rom, .int .i64 kind, .int .i64 bank, .string ram, .int .i64 rb, .bool on, .int .i64 mode, .string work, .string high, .slice po ln cap, .int .i64 cyc] 28)).alloc (.cells #[.int .i64 0, .int .i64 0, .int .i64 0, .int .i64 0, .int .i64 0, .int .i64 0, .int .i64 0, .int .i64 0, .int .i64 0, .int .i64 0, .bool false, .bool false, .string ⟨#[]⟩, .int .i64 0, .int .i64 0, .string ⟨#[]⟩, .int .i64 0, .bool false, .int .i64 0, .string ⟨#[]⟩, .string ⟨#[]⟩, .slice none 0 0, .int .i64 0] 33)).alloc (.cells #[.int .i64 ra, .int .i64 rf, .int .i64 rB, .int .i64 rC, .int .i64 rD, .int .i64 rE, .int .i64 rH, .int .i64 rL, .int .i64 sp, .int .i64 pc, .bool ime, .bool hal, .string rom, .int .i64 kind, .int .i64 bank, .string ram, .int .i64 rb, .bool on, .int .i64 mode, .string work, .string high, .slice none 0 0, .int .i64 0] 33)) W := by
    rw [hW]
    exact by repeat (with_reducible first | exact Below.refl _ _ | refine CartL.grow ?_ _ | refine below_drewN ?_ _ | refine Below.drew ?_)
  have HRow : Hid (W.heap[w.heap.size + 1 + 1 + 1 + 1 + 1 + 1 + 1 + 1 + 1]? = some ro) := by
    have h := HR.out ((((((((((w.alloc (.cells #[.int .i64 ra, .int .i64 rf, .int .i64 rB, .int .i64 rC, .int .i64 rD, .int .i64 rE, .int .i64 rH, .int .i64 rL, .int .i64 sp, .int .i64 pc, .bool ime, .bool hal, .string rom, .int .i64 kind, .int .i64 bank, .string ram, .int .i64 rb, .bool on, .int .i64 mode, .string work, .string high, .slice po ln cap, .int .i64 cyc] 28)).alloc (.cells #[.int .i64 0, .int .i64 0, .int .i64 0, .int .i64 0, .int .i64 0, .int .i64 0, .int .i64 0, .int .i64 0, .int .i64 0, .int .i64 0, .bool false, .bool false, .string ⟨#[]⟩, .int .i64 0, .int .i64 0, .string ⟨#[]⟩, .int .i64 0, .bool false, .int .i64 0, .string ⟨#[]⟩, .string ⟨#[]⟩, .slice none 0 0, .int .i64 0] 33)).alloc (.cells #[.int .i64 ra, .int .i64 rf, .int .i64 rB, .int .i64 rC, .int .i64 rD, .int .i64 rE, .int .i64 rH, .int .i64 rL, .int .i64 sp, .int .i64 pc, .bool ime, .bool hal, .string rom, .int .i64 kind, .int .i64 bank, .string ram, .int .i64 rb, .bool on, .int .i64 mode, .string work, .string high, .slice none 0 0, .int .i64 0] 33)).alloc p1).alloc p2).alloc p3).alloc q1).alloc q2).alloc q3))
    rw [← hW] at h
    simp only [World.size_alloc] at h
    exact h
  have HBel : Hid (Below w.heap.size w W) := after (by repeat (with_reducible first | exact Below.refl _ _ | refine CartL.grow ?_ _ | refine below_drewN ?_ _ | refine Below.drew ?_)) hb3
  clear hW HR
  obtain ⟨k1, k2, k3⟩ := blk1 hb3
  clear hb3
  have b22 := cel k1 22 _ rfl
  have c21 := cel k3 21 _ rfl
  have c22 := cel k3 22 _ rfl
  have f21 := fro k3 21
  have f22 := fro k3 22
  have K2 : Hid (_ = _) := k2
  have K3 : Hid (_ = _) := k3
  clear k1 k2 k3
  go_upto_region 8 with fail
  have h3 := heap_set (i := 22) (v := .int .i64 cyc) (heap_set (i := 21) (v := .slice (some ⟨w.heap.size + 1 + 1 + 1 + 1 + 1 + 1 + 1 + 1 + 1, 0, none⟩) ln ln) K3.out)
  have h2 := (heap_set_other (i := 22) (v := .int .i64 cyc) (B := w.heap.size + 1 + 1) (B' := w.heap.size + 1) (by omega) _).trans ((heap_set_other (i := 21) (v := .slice (some ⟨w.heap.size + 1 + 1 + 1 + 1 + 1 + 1 + 1 + 1 + 1, 0, none⟩) ln ln) (B := w.heap.size + 1 + 1) (B' := w.heap.size + 1) (by omega) _).trans K2.out)
  refine wp_region_list ?_
  refine wpList_load_row rfl 33 _ rfl (w.heap.size + 1 + 1) rfl _ _ (0, 0) _ h3 Tryz.underlying33 rfl (by kernel_rfl) ?_
  refine wpList_store_row rfl 33 _ _ rfl (w.heap.size + 1) #[.int .i64 ra, .int .i64 rf, .int .i64 rB, .int .i64 rC, .int .i64 rD, .int .i64 rE, .int .i64 rH, .int .i64 rL, .int .i64 sp, .int .i64 pc, .bool ime, .bool hal, .string rom, .int .i64 kind, .int .i64 bank, .string ram, .int .i64 rb, .bool on, .int .i64 mode, .string work, .string high, .slice (some ⟨w.heap.size + 1 + 1 + 1 + 1 + 1 + 1 + 1 + 1 + 1, 0, none⟩) ln ln, .int .i64 cyc] rfl rfl _ _ h2 (by kernel_rfl) rfl (by simp [Value.oneCell']) ?_
  refine wpList_nil ?_
  clear b22 c21 c22 f21 f22 K2 K3 h3
  have HH2 : Hid (_ = _) := h2
  clear h2
  go_wp2
  refine bodyPost_ret (v := .agg #[.int .i64 ra, .int .i64 rf, .int .i64 rB, .int .i64 rC, .int .i64 rD, .int .i64 rE, .int .i64 rH, .int .i64 rL, .int .i64 sp, .int .i64 pc, .bool ime, .bool hal, .string rom, .int .i64 kind, .int .i64 bank, .string ram, .int .i64 rb, .bool on, .int .i64 mode, .string work, .string high, .slice (some ⟨w.heap.size + 1 + 1 + 1 + 1 + 1 + 1 + 1 + 1 + 1, 0, none⟩) ln ln, .int .i64 cyc]) (results_cell_row Tryz.results8 _ _ (w.heap.size + 1) _ _ (0, 0) _ rfl (heap_row HH2.out) Tryz.underlying33 rfl (by kernel_rfl)) rfl ⟨rfl, ?_, ?_⟩
  · rw [heap_row_other (by omega), heap_set_other (by omega), heap_set_other (by omega)]
    exact HRow.out
  · exact below_row ((HBel.out.setCell (by simp; omega) _).setCell (by simp; omega) _) (by omega)
open Busw Busx Busm
theorem open_row {w : World} {B : Nat} {L : List Int} (h : w.heap[B]? = some (rowO L)) : Busm.Open w (some ⟨B, 0, none⟩) L.length ∧ Is w (some ⟨B, 0, none⟩) L.length (fun i => L.getD i 0) := by
  have hlt : B < w.heap.size := (Array.getElem?_eq_some_iff.1 h).1
  have hc : ∀ i (hi : i < L.length), w.cell? ⟨B, 0 + i, none⟩ = some (.int .i64 L[i]) := fun i hi => by
    rw [Nat.zero_add]
    exact cel h i _ (rowA_full L i hi)
  exact ⟨fun i hi => ⟨B, 0, rfl, hlt, ⟨_, hc i hi⟩, frozen_of_row _ _ _ _ _ h⟩, fun i hi => ⟨B, 0, rfl, hlt, by rw [hc i hi]; simp [List.getD_eq_getElem?_getD, hi]⟩⟩
theorem sl_row {w : World} {B : Nat} {L : List Int} (h : w.heap[B]? = some (rowO L)) (cap : Nat) : Sl w (some ⟨B, 0, none⟩) L cap := by
  have hlt : B < w.heap.size := (Array.getElem?_eq_some_iff.1 h).1
  refine .inr ⟨B, 0, rfl, fun i hi => ⟨hlt, ?_⟩⟩
  rw [Nat.zero_add]
  exact cel h i _ (rowA_full L i hi)
theorem open_own {w : World} {base n cap : Nat} {po : Option Addr} {L : List Int} (h : w.ownsRow base 2 1 (.slice po n cap) n (outC L)) (hn : n = L.length) : Busm.Open w po n := by
  intro i hi
  rcases h.2 with ⟨h0, hl⟩ | ⟨g, c, cur, hv, hb, hg, h1, h2, h3, h4⟩
  · omega
  · have hp : po = some ⟨g, 0, none⟩ := by injection hv
    have hs := Busy.own_sl h hn
    rcases hs with ⟨e, _, _⟩ | ⟨b, off, e, hc⟩
    · rw [hp] at e; cases e
    · rw [hp] at e; cases e
      exact ⟨g, 0, hp, (hc i (by omega)).1, ⟨_, (hc i (by omega)).2⟩, frozen_of_row _ _ _ _ _ hg⟩
theorem toM_any (m : M) (po : Option Addr) (cap : Nat) (w : World) (hN : Row w po m.out) (hlen : m.out.length ≤ 1048576) :
    Calls Tryz.prog 8 #[.agg (cellsM m po cap)] w fun e w' => ∃ B, w.heap.size ≤ B ∧ e = .returned (.agg (cellsM m (some ⟨B, 0, none⟩) m.out.length)) ∧ w'.heap[B]? = some (rowO m.out) ∧ Below w.heap.size w w' := by
  rw [cells_def]
  refine (toMachine_blk m.ra m.rf m.rB m.rC m.rD m.rE m.rH m.rL m.sp m.pc m.ime m.hal m.rom m.kind m.bank m.ram m.rb m.on m.mode m.work m.high po m.out cap m.cyc w hN hlen).mono ?_
  rintro e w' ⟨rfl, h1, h2⟩
  exact ⟨_, by omega, by rw [cells_def], h1, h2⟩
theorem eqM_any (m : M) (po po' : Option Addr) (cap cap' : Nat) (w : World) (hN : Row w po m.out) (hN' : Row w po' m.out) (hlen : m.out.length ≤ 1048576) :
    Calls Tryz.prog 10 #[.agg (cellsM m po cap), .agg (cellsM m po' cap')] w fun e w' => e = .returned (.bool true) ∧ Below w.heap.size w w' := by
  rw [cells_def, cells_def]
  refine (eqMachine_any m.ra m.rf m.rB m.rC m.rD m.rE m.rH m.rL m.sp m.pc m.ime m.hal m.rom m.kind m.bank m.ram m.rb m.on m.mode m.work m.high po m.out cap m.cyc po' cap' w hN hN' hlen).mono ?_
  rintro e w' ⟨rfl, o1, o2, o3, o4, o5, o6, n, rfl⟩
  exact ⟨rfl, by repeat (with_reducible first | exact Below.refl _ _ | refine CartL.grow ?_ _ | refine below_drewN ?_ _ | refine Below.drew ?_)⟩
end Go.Proofs.YtkfehdkjeodbmaaGreatDoor.Mact
