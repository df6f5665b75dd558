/-
  Contracts of ours for the laws' marks on a machine's Out: markInt64S, heldInt64S, markMachine, heldMachine.
-/
import Derived.Test.YtkfehdkjeodbmaaGreatDoorBusz
namespace Go.Proofs.YtkfehdkjeodbmaaGreatDoor.Busm
open Go.ChangeShapes Go.WideShapes Go.ChangeAt Go.RowKit Go.Deep
set_option linter.unusedVariables false
set_option linter.unusedSimpArgs false
set_option maxRecDepth 20000
open Carts CartK CartL Outs Mach MachT Busw Busx Busy
/-- Cells of numbers that may be written. -/
def Open (w : World) (po : Option Addr) (n : Nat) : Prop := ∀ i, i < n → ∃ b off, po = some ⟨b, off, none⟩ ∧ b < w.heap.size ∧ (∃ z, w.cell? ⟨b, off + i, none⟩ = some (.int .i64 z)) ∧ w.frozen? ⟨b, off + i, none⟩ = false
def Is (w : World) (po : Option Addr) (n : Nat) (f : Nat → Int) : Prop := ∀ i, i < n → ∃ b off, po = some ⟨b, off, none⟩ ∧ b < w.heap.size ∧ w.cell? ⟨b, off + i, none⟩ = some (.int .i64 (f i))
def blockOf (po : Option Addr) : Option Nat := po.map (·.block)
theorem addr_ne {b off i j : Nat} (h : i ≠ j) : (⟨b, off + i, none⟩ : Addr) ≠ ⟨b, off + j, none⟩ := fun e => by
  injection e with _ e2; omega
structure Mid (w wr : World) (po : Option Addr) (n k : Nat) (k0 : Int) : Prop where
  grown : w.grownBy wr (blockOf po)
  size : wr.heap.size = w.heap.size
  done : Is wr po k (fun i => k0 + i)
  left : ∀ i, k ≤ i → i < n → ∀ b off, po = some ⟨b, off, none⟩ → wr.cell? ⟨b, off + i, none⟩ = w.cell? ⟨b, off + i, none⟩
  froz : ∀ a, wr.frozen? a = w.frozen? a
theorem Mid.start (w : World) (po : Option Addr) (n : Nat) (k0 : Int) : Mid w w po n 0 k0 := ⟨⟨rfl, rfl, rfl, Nat.le_refl _, fun _ _ _ => rfl⟩, rfl, fun i h => absurd h (by omega), fun _ _ _ _ _ _ => rfl, fun _ => rfl⟩
theorem Mid.next {w wr : World} {b off n k : Nat} {k0 : Int} (h : Mid w wr (some ⟨b, off, none⟩) n k k0) (ho : Open w (some ⟨b, off, none⟩) n) (hk : k < n) : Mid w (wr.setCell ⟨b, off + k, none⟩ (.int .i64 (k0 + k))) (some ⟨b, off, none⟩) n (k + 1) k0 := by
  have hcur : ∃ z, wr.cell? ⟨b, off + k, none⟩ = some (.int .i64 z) := by
    obtain ⟨b', off', e, _, ⟨z, hz⟩, _⟩ := ho k hk
    cases e
    exact ⟨z, (h.left k (Nat.le_refl _) hk b off rfl).trans hz⟩
  have hb : b < w.heap.size := by
    obtain ⟨b', off', e, hb, _⟩ := ho k hk
    cases e; exact hb
  obtain ⟨z, hz⟩ := hcur
  refine ⟨⟨h.grown.os, h.grown.tape, h.grown.output, by rw [Busw.size_set, h.size]; exact Nat.le_refl _, fun j hj hne => ?_⟩, by rw [Busw.size_set, h.size], fun i hi => ⟨b, off, rfl, by rw [Busw.size_set, h.size]; exact hb, ?_⟩, fun i h1 h2 b' off' e => ?_, fun a => by rw [World.frozen?_setCell, h.froz]⟩
  · rw [Below.heap_setCell _ _ _ _ (fun e => hne (by rw [e]; rfl)), h.grown.block j hj hne]
  · by_cases e : i = k
    · subst e; exact World.cell?_setCell_same (h := hz) ..
    · rw [World.cell?_setCell_other (h := addr_ne (b := b) (off := off) (i := k) (j := i) (fun x => e x.symm))]
      obtain ⟨b', off', e', _, hc⟩ := h.done i (by omega)
      cases e'; exact hc
  · cases e
    rw [World.cell?_setCell_other (h := addr_ne (b := b) (off := off) (i := k) (j := i) (by omega))]
    exact h.left i (by omega) h2 b off rfl
set_option maxHeartbeats 1000000 in
theorem markInt64S_any (po : Option Addr) (n cap : Nat) (k0 : Int) (w : World) (ho : Open w po n) (hn : n ≤ 1048576) (hk0 : 0 ≤ k0) (hk1 : k0 ≤ 1048576) :
    Calls Tryz.prog 34 #[.slice po n cap, .int .i64 k0] w fun e w' => e = .returned (.int .i64 (k0 + n)) ∧ Mid w w' po n n k0 := by
  have HO : Hid (Open w po n) := ho
  clear ho
  go_enter Tryz.func34, Tryz.ntmps34
  go_wp2
  go_loopw [5, 1] (fun i q wr => ∃ k : Nat, k ≤ n ∧ i = .int .i64 k ∧ q = .int .i64 (k0 + k) ∧ Hid (Mid w wr po n k k0)) (fun i _ _ => n - (intOf i).toNat)
  case atStart => exact ⟨0, Nat.zero_le _, rfl, by simp, Mid.start w po n k0⟩
  case round =>
    obtain ⟨k, hk, rfl, rfl, hm⟩ := hrel
    by_cases hlt : k < n
    · obtain ⟨b, off, rfl, hb, ⟨z, hz⟩, hf⟩ := HO.out k hlt
      have q1 := (hm.out.left k (Nat.le_refl _) hlt b off rfl).trans hz
      have q2 := (hm.out.froz _).trans hf
      have HNX : Hid _ := hm.out.next HO.out hlt
      clear hm hz hf
      have k0' : (0 : Int) ≤ (k : Int) := by omega
      have k1 : (k : Int) < (n : Int) := by omega
      go_wp2
      go_roundw
      case rel => exact ⟨k + 1, by omega, by go_num, by go_num, HNX⟩
      case measure => simp [intOf]; omega
    · have e : k = n := by omega
      subst e
      go_wp2
      go_ret
      exact ⟨rfl, hm.out⟩
set_option maxHeartbeats 1000000 in
theorem heldInt64S_any (po : Option Addr) (n cap : Nat) (k0 : Int) (w : World) (hi : Is w po n (fun i => k0 + i)) (hn : n ≤ 1048576) (hk0 : 0 ≤ k0) (hk1 : k0 ≤ 1048576) :
    Calls Tryz.prog 35 #[.slice po n cap, .int .i64 k0] w fun e w' => e = .returned (.int .i64 (k0 + n)) ∧ w' = w := by
  have HI : Hid (Is w po n (fun i => k0 + i)) := hi
  clear hi
  go_enter Tryz.func35, Tryz.ntmps35
  go_wp2
  go_loopw [5, 1] (fun i q wr => ∃ k : Nat, k ≤ n ∧ i = .int .i64 k ∧ q = .int .i64 (k0 + k) ∧ wr = w) (fun i _ _ => n - (intOf i).toNat)
  case atStart => exact ⟨0, Nat.zero_le _, rfl, by simp, rfl⟩
  case round =>
    obtain ⟨k, hk, rfl, rfl, rfl⟩ := hrel
    by_cases hlt : k < n
    · obtain ⟨b, off, rfl, hb, hz⟩ := HI.out k hlt
      have k0' : (0 : Int) ≤ (k : Int) := by omega
      have k1 : (k : Int) < (n : Int) := by omega
      go_wp2
      go_roundw
      case rel => exact ⟨k + 1, by omega, by go_num, by go_num, trivial⟩
      case measure => simp [intOf]; omega
    · have e : k = n := by omega
      subst e
      go_wp2
      go_ret
      exact ⟨rfl, rfl⟩
theorem open_alloc {w : World} {po : Option Addr} {n : Nat} (h : Open w po n) (o : Obj) : Open (w.alloc o) po n := fun i hi => by
  obtain ⟨b, off, e, hb, ⟨z, hz⟩, hf⟩ := h i hi
  exact ⟨b, off, e, by simp; omega, ⟨z, (((Below.refl _ w).alloc (Nat.le_refl _) o).cell (p := ⟨b, _, none⟩) hb).trans hz⟩, by rw [World.frozen?_of_block (a := ⟨b, off + i, none⟩) (alloc_kept _ _ hb)]; exact hf⟩
theorem is_alloc {w : World} {po : Option Addr} {n : Nat} {f : Nat → Int} (h : Is w po n f) (o : Obj) : Is (w.alloc o) po n f := fun i hi => by
  obtain ⟨b, off, e, hb, hz⟩ := h i hi
  exact ⟨b, off, e, by simp; omega, (((Below.refl _ w).alloc (Nat.le_refl _) o).cell (p := ⟨b, _, none⟩) hb).trans hz⟩
set_option maxHeartbeats 1000000 in
theorem markMachine_any (m : M) (po : Option Addr) (cap : Nat) (w : World) (ho : Open w po m.out.length) (hn : m.out.length ≤ 1048576) :
    Calls Tryz.prog 11 #[.agg (cellsM m po cap), .int .i64 1] w fun e w' => e = .returned (.int .i64 (1 + m.out.length)) ∧ ∃ o, Mid (w.alloc o) w' po m.out.length m.out.length 1 := by
  have HO : Hid (Open w po m.out.length) := ho
  obtain ⟨cM, hcM⟩ : ∃ c, c = cellsM m po cap := ⟨_, rfl⟩
  have k0 : (w.alloc (.cells cM 33)).cell? ⟨w.heap.size, 21, none⟩ = some (.slice po m.out.length cap) := by
    rw [hcM]; exact celM (heap_alloc_last w _) 21 _ rfl
  rw [← hcM]
  clear ho hcM
  have c := fun W h => markInt64S_any po m.out.length cap 1 W h hn (by decide) (by decide)
  have n0 : ¬ (1 + (m.out.length : Int)) < 0 := by omega
  go_enter Tryz.func11, Tryz.ntmps11
  go_upto_region 1 with fail
  have HO1 : Hid (Open (w.alloc (.cells cM 33)) po m.out.length) := open_alloc HO.out _
  go_wp2_with fail
  refine Calls.mono (c _ HO1.out) ?_
  rintro e w1 ⟨rfl, hm⟩
  have HM : Hid _ := hm
  clear hm
  go_wp2
  go_ret
  exact ⟨rfl, _, HM.out⟩
set_option maxHeartbeats 1000000 in
theorem heldMachine_any (m : M) (po : Option Addr) (cap : Nat) (w : World) (ho : Is w po m.out.length (fun i => 1 + i)) (hn : m.out.length ≤ 1048576) :
    Calls Tryz.prog 12 #[.agg (cellsM m po cap), .int .i64 1] w fun e w' => e = .returned (.int .i64 (1 + m.out.length)) ∧ ∃ o, w' = w.alloc o := by
  have HO : Hid (Is w po m.out.length (fun i => 1 + i)) := ho
  obtain ⟨cM, hcM⟩ : ∃ c, c = cellsM m po cap := ⟨_, rfl⟩
  have k0 : (w.alloc (.cells cM 33)).cell? ⟨w.heap.size, 21, none⟩ = some (.slice po m.out.length cap) := by
    rw [hcM]; exact celM (heap_alloc_last w _) 21 _ rfl
  rw [← hcM]
  clear ho hcM
  have c := fun W h => heldInt64S_any po m.out.length cap 1 W h hn (by decide) (by decide)
  have n0 : ¬ (1 + (m.out.length : Int)) < 0 := by omega
  go_enter Tryz.func12, Tryz.ntmps12
  go_upto_region 1 with fail
  have HO1 : Hid (Is (w.alloc (.cells cM 33)) po m.out.length (fun i => 1 + i)) := is_alloc HO.out _
  go_wp2_with fail
  refine Calls.mono (c _ HO1.out) ?_
  rintro e w1 ⟨rfl, rfl⟩
  go_wp2
  go_ret
  exact ⟨rfl, _, rfl⟩
end Go.Proofs.YtkfehdkjeodbmaaGreatDoor.Busm
