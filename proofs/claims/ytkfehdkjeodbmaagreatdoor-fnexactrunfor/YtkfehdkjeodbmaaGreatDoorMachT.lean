/-
  Contracts of ours for the laws' own helpers over machines: the mirror's machine as the program's, equality.
-/
import Derived.Test.YtkfehdkjeodbmaaGreatDoorMach
import Derived.Deep.Cut
import Derived.Laws.Tables
import Derived.Laws.Rows
namespace Go.Proofs.YtkfehdkjeodbmaaGreatDoor.MachT
set_option maxRecDepth 20000
open Go.ChangeShapes Go.WideShapes Go.ChangeAt Go.RowKit Go.Deep
set_option linter.unusedVariables false
open Signed (inB ret_int ret_bool isByte_any l1In_any)
open CartL Outs Mach

theorem toCpu_ex (ra rf rB rC rD rE rH rL sp pc : Int) (ime hal : Bool) (w : World) :
    Calls Tryz.prog 25 #[.agg #[.int .i64 ra, .int .i64 rf, .int .i64 rB, .int .i64 rC, .int .i64 rD, .int .i64 rE, .int .i64 rH, .int .i64 rL, .int .i64 sp, .int .i64 pc, .bool ime, .bool hal]] w fun e w' => e = .returned (.agg #[.int .i64 ra, .int .i64 rf, .int .i64 rB, .int .i64 rC, .int .i64 rD, .int .i64 rE, .int .i64 rH, .int .i64 rL, .int .i64 sp, .int .i64 pc, .bool ime, .bool hal]) ∧ ∃ o1 o2 o3, w' = ((w.alloc o1).alloc o2).alloc o3 := by
  refine (toCpu_any ra rf rB rC rD rE rH rL sp pc ime hal w).mono ?_
  rintro e w' ⟨rfl, rfl⟩
  exact ⟨rfl, _, _, _, rfl⟩
theorem eqCpu_ex (ra rf rB rC rD rE rH rL sp pc : Int) (ime hal : Bool) (w : World) :
    Calls Tryz.prog 31 #[.agg #[.int .i64 ra, .int .i64 rf, .int .i64 rB, .int .i64 rC, .int .i64 rD, .int .i64 rE, .int .i64 rH, .int .i64 rL, .int .i64 sp, .int .i64 pc, .bool ime, .bool hal], .agg #[.int .i64 ra, .int .i64 rf, .int .i64 rB, .int .i64 rC, .int .i64 rD, .int .i64 rE, .int .i64 rH, .int .i64 rL, .int .i64 sp, .int .i64 pc, .bool ime, .bool hal]] w fun e w' => e = .returned (.bool true) ∧ ∃ o1 o2, w' = (w.alloc o1).alloc o2 := by
  refine (eqCpu_any ra rf rB rC rD rE rH rL sp pc ime hal w).mono ?_
  rintro e w' ⟨rfl, rfl⟩
  exact ⟨rfl, _, _, rfl⟩
theorem toCart_ex (rom : ByteArray) (kind bank : Int) (ram : ByteArray) (rb : Int) (on : Bool) (mode : Int) (w : World) :
    Calls Tryz.prog 26 #[.agg #[.string rom, .int .i64 kind, .int .i64 bank, .string ram, .int .i64 rb, .bool on, .int .i64 mode]] w fun e w' => e = .returned (.agg #[.string rom, .int .i64 kind, .int .i64 bank, .string ram, .int .i64 rb, .bool on, .int .i64 mode]) ∧ ∃ o1 o2 o3, w' = ((w.alloc o1).alloc o2).alloc o3 := by
  refine (toCart_any rom kind bank ram rb on mode w).mono ?_
  rintro e w' ⟨rfl, rfl⟩
  exact ⟨rfl, _, _, _, rfl⟩
theorem eqCart_ex (rom : ByteArray) (kind bank : Int) (ram : ByteArray) (rb : Int) (on : Bool) (mode : Int) (w : World) :
    Calls Tryz.prog 32 #[.agg #[.string rom, .int .i64 kind, .int .i64 bank, .string ram, .int .i64 rb, .bool on, .int .i64 mode], .agg #[.string rom, .int .i64 kind, .int .i64 bank, .string ram, .int .i64 rb, .bool on, .int .i64 mode]] w fun e w' => e = .returned (.bool true) ∧ ∃ o1 o2, w' = (w.alloc o1).alloc o2 := by
  refine (eqCart_any rom kind bank ram rb on mode w).mono ?_
  rintro e w' ⟨rfl, rfl⟩
  exact ⟨rfl, _, _, rfl⟩
theorem blk1 {w w' : World} {a b c : Obj} (h : Below (((w.alloc a).alloc b).alloc c).heap.size (((w.alloc a).alloc b).alloc c) w') : w'.heap[w.heap.size]? = some a ∧ w'.heap[w.heap.size + 1]? = some b ∧ w'.heap[w.heap.size + 1 + 1]? = some c := by
  have n : ∀ (u : World) (o : Obj), (u.alloc o).heap[u.heap.size]? = some o := fun u o => by
    show (u.heap.push o)[u.heap.size]? = some o
    rw [Array.getElem?_push_size]
  have s : ∀ (u : World) (o : Obj), (u.alloc o).heap.size = u.heap.size + 1 := fun u o => by
    show (u.heap.push o).size = _
    rw [Array.size_push]
  refine ⟨?_, ?_, ?_⟩
  · rw [h.block _ (by rw [s, s, s]; omega), Below.heap_alloc _ _ _ (by rw [s, s]; omega), Below.heap_alloc _ _ _ (by rw [s]; omega)]
    exact n w a
  · rw [h.block _ (by rw [s, s, s]; omega), Below.heap_alloc _ _ _ (by rw [s, s]; omega)]
    have := n (w.alloc a) b
    rwa [s] at this
  · rw [h.block _ (by rw [s, s, s]; omega)]
    have := n ((w.alloc a).alloc b) c
    rwa [s, s] at this
theorem cel {W : World} {B : Nat} {vs : Array Value} {T : TypeId} (h : W.heap[B]? = some (.cells vs T)) (i : Nat) (v : Value) (hv : vs[i]? = some v) : W.cell? ⟨B, i, none⟩ = some v := by
  unfold World.cell?
  rw [h]
  simpa using hv
theorem fro {W : World} {B : Nat} {vs : Array Value} {T : TypeId} (h : W.heap[B]? = some (.cells vs T)) (i : Nat) : W.frozen? ⟨B, i, none⟩ = false := by
  unfold World.frozen?
  rw [h]
  simp
theorem Row.set {W : World} {p : Option Addr} {L : List Int} (h : Row W p L) (a : Addr) (v : Value) (ha : ∀ b off, p = some ⟨b, off, none⟩ → a.block ≠ b) : Row (W.setCell a v) p L := by
  rcases h with h | ⟨b, off, hp, hl, hc⟩
  · exact .inl h
  · refine .inr ⟨b, off, hp, by simpa [World.setCell] using hl, fun i hi => ?_⟩
    rw [World.cell?_setCell_other _ _ _ _ (fun e => ha b off hp (by rw [e]))]
    exact hc i hi
theorem heap_set {W : World} {B i : Nat} {vs : Array Value} {T : TypeId} {v : Value} (h : W.heap[B]? = some (.cells vs T)) : (W.setCell ⟨B, i, none⟩ v).heap[B]? = some (.cells (vs.setIfInBounds i v) T) := by
  unfold World.setCell
  simp [Array.getElem?_modify, h]
theorem heap_row {W : World} {B : Nat} {vs cs : Array Value} {T : TypeId} (h : W.heap[B]? = some (.cells vs T)) : (W.setRow B cs).heap[B]? = some (.cells cs T) := by
  unfold World.setRow
  simp [Array.getElem?_modify, h]
theorem heap_row_other {B B' : Nat} {cs : Array Value} (hne : B ≠ B') (W : World) : (W.setRow B cs).heap[B']? = W.heap[B']? := by
  unfold World.setRow
  simp [Array.getElem?_modify, hne]
theorem size_row {B : Nat} {cs : Array Value} (W : World) : (W.setRow B cs).heap.size = W.heap.size := by
  unfold World.setRow
  simp
theorem below_row {n g : Nat} {a w : World} {cs : Array Value} (h : Below n a w) (hg : n ≤ g) : Below n a (w.setRow g cs) :=
  h.trans ⟨rfl, rfl, rfl, by rw [size_row]; exact Nat.le_refl _, fun k hk => heap_row_other (by omega) w⟩
theorem Row.block {W W' : World} {p : Option Addr} {L : List Int} (h : Row W p L) (hs : W.heap.size ≤ W'.heap.size) (hb : ∀ b off, p = some ⟨b, off, none⟩ → W'.heap[b]? = W.heap[b]?) : Row W' p L := by
  rcases h with h | ⟨b, off, hp, hl, hc⟩
  · exact .inl h
  · exact .inr ⟨b, off, hp, Nat.lt_of_lt_of_le hl hs, fun i hi => (World.cell?_of_block (a := ⟨b, _, none⟩) (hb b off hp)).trans (hc i hi)⟩
theorem size_set {a : Addr} {v : Value} (W : World) : (W.setCell a v).heap.size = W.heap.size := by
  unfold World.setCell
  simp
theorem heap_set_other {B B' i : Nat} {v : Value} (hne : B ≠ B') (W : World) : (W.setCell ⟨B, i, none⟩ v).heap[B']? = W.heap[B']? := Below.heap_setCell W ⟨B, i, none⟩ v B' (fun e => hne e.symm)
set_option maxHeartbeats 1000000 in
theorem toMachine_any (ra rf rB rC rD rE rH rL sp pc : Int) (ime hal : Bool) (rom : ByteArray) (kind bank : Int) (ram : ByteArray) (rb : Int) (on : Bool) (mode : Int) (work high : ByteArray) (po : Option Addr) (L : List Int) (cap : Nat) (cyc : Int) (w : World) (hN : Row w po L) (hlen : L.length ≤ 1048576) :
    Calls Tryz.prog 8 #[.agg #[.int .i64 ra, .int .i64 rf, .int .i64 rB, .int .i64 rC, .int .i64 rD, .int .i64 rE, .int .i64 rH, .int .i64 rL, .int .i64 sp, .int .i64 pc, .bool ime, .bool hal, .string rom, .int .i64 kind, .int .i64 bank, .string ram, .int .i64 rb, .bool on, .int .i64 mode, .string work, .string high, .slice po L.length cap, .int .i64 cyc]] w fun e w' => e = .returned (.agg #[.int .i64 ra, .int .i64 rf, .int .i64 rB, .int .i64 rC, .int .i64 rD, .int .i64 rE, .int .i64 rH, .int .i64 rL, .int .i64 sp, .int .i64 pc, .bool ime, .bool hal, .string rom, .int .i64 kind, .int .i64 bank, .string ram, .int .i64 rb, .bool on, .int .i64 mode, .string work, .string high, .slice (some ⟨w.heap.size + 1 + 1 + 1 + 1 + 1 + 1 + 1 + 1 + 1, 0, none⟩) L.length L.length, .int .i64 cyc]) ∧ Row w' (some ⟨w.heap.size + 1 + 1 + 1 + 1 + 1 + 1 + 1 + 1 + 1, 0, none⟩) L ∧ Below w.heap.size w w' := by
  have c := fun W (h : Row W po L) => toInt64S_any po cap L W h hlen
  have HB : Hid (Row w po L) := hN
  have HR : Hid (∀ W : World, Row (W.alloc (rowO L)) (some ⟨W.heap.size, 0, none⟩) L) := fun W => rowO_row W L
  clear hN hlen
  obtain ⟨ln, hl⟩ : ∃ ln, ln = L.length := ⟨_, rfl⟩
  obtain ⟨ro, hro⟩ : ∃ ro, ro = rowO L := ⟨_, rfl⟩
  rw [← hro] at HR
  rw [← hl, ← hro] at c
  rw [← hl]
  clear hl hro
  go_enter Tryz.func8, Tryz.ntmps8
  go_wp2_with first | (go_at_call 25; refine (toCpu_ex _ _ _ _ _ _ _ _ _ _ _ _ _).mono ?_; rintro e w' ⟨rfl, p1, p2, p3, rfl⟩) | (go_at_call 26; refine (toCart_ex _ _ _ _ _ _ _ _).mono ?_; rintro e w' ⟨rfl, q1, q2, q3, rfl⟩)
  refine Calls.mono (c _ ?_) ?_
  · exact HB.out.below (by repeat (with_reducible first | exact Below.refl _ _ | refine CartL.grow ?_ _ | refine below_drewN ?_ _ | refine Below.drew ?_))
  rintro e W ⟨rfl, hW⟩
  clear c HB
  have hb3 : Below (((w.alloc (.cells #[.int .i64 ra, .int .i64 rf, .int .i64 rB, .int .i64 rC, .int .i64 rD, .int .i64 rE, .int .i64 rH, .int .i64 rL, .int .i64 sp, .int .i64 pc, .bool ime, .bool hal, .string rom, .int .i64 kind, .int .i64 bank, .string ram, .int .i64 rb, .bool on, .int .i64 mode, .string work, .string high, .slice po ln cap, .int .i64 cyc] 28)).alloc (.cells #[.int .i64 0, .int .i64 0, .int .i64 0, .int .i64 0, .int .i64 0, .int .i64 0, .int .i64 0, .int .i64 0, .int .i64 0, .int .i64 0, .bool false, .bool false, .string ⟨#[]⟩, .int .i64 0, .int .i64 0, .string ⟨#[]⟩, .int .i64 0, .bool false, .int .i64 0, .string ⟨#[]⟩, .string ⟨#[]⟩, .slice none 0 0, .int .i64 0] 33)).alloc (.cells #[.int .i64 ra, .int .i64 rf, .int .i64 rB, .int .i64 rC, .int .i64 rD, .int .i64 rE, .int .i64 rH, .int .i64 rL, .int .i64 sp, .int .i64 pc, .bool ime, .bool hal, .string rom, .int .i64 kind, .int .i64 bank, .string ram, .int .i64 rb, .bool on, .int .i64 mode, .string work, .string high, .slice none 0 0, .int .i64 0] 33)).heap.size (((w.alloc (.cells #[.int .i64 ra, .int .i64 rf, .int .i64 rB, .int .i64 rC, .int .i64 rD, .int .i64 rE, .int .i64 rH, .int .i64 rL, .int .i64 sp, .int .i64 pc, .bool ime, .bool hal, .string rom, .int .i64 kind, .int .i64 bank, .string ram, .int .i64 rb, .bool on, .int .i64 mode, .string work, .string high, .slice po ln cap, .int .i64 cyc] 28)).alloc (.cells #[.int .i64 0, .int .i64 0, .int .i64 0, .int .i64 0, .int .i64 0, .int .i64 0, .int .i64 0, .int .i64 0, .int .i64 0, .int .i64 0, .bool false, .bool false, .string ⟨#[]⟩, .int .i64 0, .int .i64 0, .string ⟨#[]⟩, .int .i64 0, .bool false, .int .i64 0, .string ⟨#[]⟩, .string ⟨#[]⟩, .slice none 0 0, .int .i64 0] 33)).alloc (.cells #[.int .i64 ra, .int .i64 rf, .int .i64 rB, .int .i64 rC, .int .i64 rD, .int .i64 rE, .int .i64 rH, .int .i64 rL, .int .i64 sp, .int .i64 pc, .bool ime, .bool hal, .string rom, .int .i64 kind, .int .i64 bank, .string ram, .int .i64 rb, .bool on, .int .i64 mode, .string work, .string high, .slice none 0 0, .int .i64 0] 33)) W := by
    rw [hW]
    exact by repeat (with_reducible first | exact Below.refl _ _ | refine CartL.grow ?_ _ | refine below_drewN ?_ _ | refine Below.drew ?_)
  have HRow : Hid (Row W (some ⟨w.heap.size + 1 + 1 + 1 + 1 + 1 + 1 + 1 + 1 + 1, 0, none⟩) L) := by
    have h := HR.out ((((((((((w.alloc (.cells #[.int .i64 ra, .int .i64 rf, .int .i64 rB, .int .i64 rC, .int .i64 rD, .int .i64 rE, .int .i64 rH, .int .i64 rL, .int .i64 sp, .int .i64 pc, .bool ime, .bool hal, .string rom, .int .i64 kind, .int .i64 bank, .string ram, .int .i64 rb, .bool on, .int .i64 mode, .string work, .string high, .slice po ln cap, .int .i64 cyc] 28)).alloc (.cells #[.int .i64 0, .int .i64 0, .int .i64 0, .int .i64 0, .int .i64 0, .int .i64 0, .int .i64 0, .int .i64 0, .int .i64 0, .int .i64 0, .bool false, .bool false, .string ⟨#[]⟩, .int .i64 0, .int .i64 0, .string ⟨#[]⟩, .int .i64 0, .bool false, .int .i64 0, .string ⟨#[]⟩, .string ⟨#[]⟩, .slice none 0 0, .int .i64 0] 33)).alloc (.cells #[.int .i64 ra, .int .i64 rf, .int .i64 rB, .int .i64 rC, .int .i64 rD, .int .i64 rE, .int .i64 rH, .int .i64 rL, .int .i64 sp, .int .i64 pc, .bool ime, .bool hal, .string rom, .int .i64 kind, .int .i64 bank, .string ram, .int .i64 rb, .bool on, .int .i64 mode, .string work, .string high, .slice none 0 0, .int .i64 0] 33)).alloc p1).alloc p2).alloc p3).alloc q1).alloc q2).alloc q3))
    rw [← hW] at h
    simp only [World.size_alloc] at h
    exact h
  have HBel : Hid (Below w.heap.size w W) := after (by repeat (with_reducible first | exact Below.refl _ _ | refine CartL.grow ?_ _ | refine below_drewN ?_ _ | refine Below.drew ?_)) hb3
  clear hW HR
  obtain ⟨k1, k2, k3⟩ := blk1 hb3
  clear hb3
  have b22 := cel k1 22 _ rfl
  have c21 := cel k3 21 _ rfl
  have c22 := cel k3 22 _ rfl
  have f21 := fro k3 21
  have f22 := fro k3 22
  have K2 : Hid (_ = _) := k2
  have K3 : Hid (_ = _) := k3
  clear k1 k2 k3
  go_upto_region 8 with fail
  have h3 := heap_set (i := 22) (v := .int .i64 cyc) (heap_set (i := 21) (v := .slice (some ⟨w.heap.size + 1 + 1 + 1 + 1 + 1 + 1 + 1 + 1 + 1, 0, none⟩) ln ln) K3.out)
  have h2 := (heap_set_other (i := 22) (v := .int .i64 cyc) (B := w.heap.size + 1 + 1) (B' := w.heap.size + 1) (by omega) _).trans ((heap_set_other (i := 21) (v := .slice (some ⟨w.heap.size + 1 + 1 + 1 + 1 + 1 + 1 + 1 + 1 + 1, 0, none⟩) ln ln) (B := w.heap.size + 1 + 1) (B' := w.heap.size + 1) (by omega) _).trans K2.out)
  refine wp_region_list ?_
  refine wpList_load_row rfl 33 _ rfl (w.heap.size + 1 + 1) rfl _ _ (0, 0) _ h3 Tryz.underlying33 rfl (by kernel_rfl) ?_
  refine wpList_store_row rfl 33 _ _ rfl (w.heap.size + 1) #[.int .i64 ra, .int .i64 rf, .int .i64 rB, .int .i64 rC, .int .i64 rD, .int .i64 rE, .int .i64 rH, .int .i64 rL, .int .i64 sp, .int .i64 pc, .bool ime, .bool hal, .string rom, .int .i64 kind, .int .i64 bank, .string ram, .int .i64 rb, .bool on, .int .i64 mode, .string work, .string high, .slice (some ⟨w.heap.size + 1 + 1 + 1 + 1 + 1 + 1 + 1 + 1 + 1, 0, none⟩) ln ln, .int .i64 cyc] rfl rfl _ _ h2 (by kernel_rfl) rfl (by simp [Value.oneCell']) ?_
  refine wpList_nil ?_
  clear b22 c21 c22 f21 f22 K2 K3 h3
  have HH2 : Hid (_ = _) := h2
  clear h2
  go_wp2
  refine bodyPost_ret (v := .agg #[.int .i64 ra, .int .i64 rf, .int .i64 rB, .int .i64 rC, .int .i64 rD, .int .i64 rE, .int .i64 rH, .int .i64 rL, .int .i64 sp, .int .i64 pc, .bool ime, .bool hal, .string rom, .int .i64 kind, .int .i64 bank, .string ram, .int .i64 rb, .bool on, .int .i64 mode, .string work, .string high, .slice (some ⟨w.heap.size + 1 + 1 + 1 + 1 + 1 + 1 + 1 + 1 + 1, 0, none⟩) ln ln, .int .i64 cyc]) (results_cell_row Tryz.results8 _ _ (w.heap.size + 1) _ _ (0, 0) _ rfl (heap_row HH2.out) Tryz.underlying33 rfl (by kernel_rfl)) rfl ⟨rfl, ?_, ?_⟩
  · refine Row.block HRow.out (by rw [size_row, size_set, size_set]; exact Nat.le_refl _) (fun b off e => ?_)
    have eb : b = w.heap.size + 1 + 1 + 1 + 1 + 1 + 1 + 1 + 1 + 1 := by
      have := congrArg (Option.map Addr.block) e
      simpa using this.symm
    rw [heap_row_other (by omega), heap_set_other (by omega), heap_set_other (by omega)]
  · exact below_row ((HBel.out.setCell (by simp; omega) _).setCell (by simp; omega) _) (by omega)
set_option maxHeartbeats 2000000 in
theorem eqMachine_any (ra rf rB rC rD rE rH rL sp pc : Int) (ime hal : Bool) (rom : ByteArray) (kind bank : Int) (ram : ByteArray) (rb : Int) (on : Bool) (mode : Int) (work high : ByteArray) (po : Option Addr) (L : List Int) (cap : Nat) (cyc : Int) (po' : Option Addr) (cap' : Nat) (w : World) (hN : Row w po L) (hN' : Row w po' L) (hlen : L.length ≤ 1048576) :
    Calls Tryz.prog 10 #[.agg #[.int .i64 ra, .int .i64 rf, .int .i64 rB, .int .i64 rC, .int .i64 rD, .int .i64 rE, .int .i64 rH, .int .i64 rL, .int .i64 sp, .int .i64 pc, .bool ime, .bool hal, .string rom, .int .i64 kind, .int .i64 bank, .string ram, .int .i64 rb, .bool on, .int .i64 mode, .string work, .string high, .slice po L.length cap, .int .i64 cyc], .agg #[.int .i64 ra, .int .i64 rf, .int .i64 rB, .int .i64 rC, .int .i64 rD, .int .i64 rE, .int .i64 rH, .int .i64 rL, .int .i64 sp, .int .i64 pc, .bool ime, .bool hal, .string rom, .int .i64 kind, .int .i64 bank, .string ram, .int .i64 rb, .bool on, .int .i64 mode, .string work, .string high, .slice po' L.length cap', .int .i64 cyc]] w fun e w' => e = .returned (.bool true) ∧ ∃ o1 o2 o3 o4 o5 o6 n, w' = ((((((w.alloc o1).alloc o2).alloc o3).alloc o4).alloc o5).alloc o6).drewN n := by
  have c := fun W (h : Row W po L) (h' : Row W po' L) => eqInt64S_any po po' cap cap' L W h h' hlen
  have HB : Hid (Row w po L) := hN
  have HB' : Hid (Row w po' L) := hN'
  clear hN hN' hlen
  obtain ⟨ln, hl⟩ : ∃ ln, ln = L.length := ⟨_, rfl⟩
  rw [← hl] at c ⊢
  clear hl
  go_enter Tryz.func10, Tryz.ntmps10
  go_wp2_with first | (go_at_call 31; refine (eqCpu_ex _ _ _ _ _ _ _ _ _ _ _ _ _).mono ?_; rintro e w' ⟨rfl, p1, p2, rfl⟩) | (go_at_call 32; refine (eqCart_ex _ _ _ _ _ _ _ _).mono ?_; rintro e w' ⟨rfl, q1, q2, rfl⟩)
  refine Calls.mono (c _ ?_ ?_) ?_
  · exact HB.out.below (by repeat (with_reducible first | exact Below.refl _ _ | refine CartL.grow ?_ _ | refine below_drewN ?_ _ | refine Below.drew ?_))
  · exact HB'.out.below (by repeat (with_reducible first | exact Below.refl _ _ | refine CartL.grow ?_ _ | refine below_drewN ?_ _ | refine Below.drew ?_))
  rintro e w' ⟨rfl, n, rfl⟩
  clear c HB HB'
  go_wp2
  go_ret
  exact ⟨rfl, _, _, _, _, _, _, _, rfl⟩
end Go.Proofs.YtkfehdkjeodbmaaGreatDoor.MachT
