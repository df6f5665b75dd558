/-
  A contract of ours for laws.toENodeS that tells the row as owned.
-/
import Derived.Test.YtnlcfppgpbfmiaaNodm
namespace Go.Proofs.Ytnlcfppgpbfmiaa.Nodo
open Go.ChangeShapes Go.WideShapes Go.ChangeAt Go.RowKit Go.Deep
open Nodm
open Stepx (Nodes)
set_option linter.unusedVariables false
set_option maxRecDepth 20000
def nil3 : Stepx.Node := (0, 0, ⟨#[]⟩)
theorem made3 : ∀ len : Nat, (madeCells #[.int .i64 0, .int .i64 0, .string ⟨#[]⟩] (len * 3)).toList = cellsOf (List.replicate len nil3)
  | 0 => by unfold madeCells; simp [cellsOf]
  | m + 1 => by
    have ih := made3 m
    unfold madeCells at ih ⊢
    rw [Array.toList_map, Array.toList_range] at ih ⊢
    rw [List.replicate_succ', cells_snoc, ← ih, show (m + 1) * 3 = m * 3 + 1 + 1 + 1 by omega, List.range_succ, List.range_succ, List.range_succ]
    simp only [List.map_append, List.append_assoc]
    congr 1
    have a0 : (m * 3) % 3 = 0 := by omega
    have a1 : (m * 3 + 1) % 3 = 1 := by omega
    have a2 : (m * 3 + 1 + 1) % 3 = 2 := by omega
    have sz : (#[Value.int .i64 0, Value.int .i64 0, Value.string ⟨#[]⟩] : Array Value).size = 3 := rfl
    simp only [List.map_cons, List.map_nil, sz, a0, a1, a2]
    rfl
def sofar (k : Nat) (L : List Stepx.Node) : List Stepx.Node := L.take k ++ List.replicate (L.length - k) nil3
theorem sofar_step {k : Nat} {L : List Stepx.Node} (h : k < L.length) : (((cellsOf (sofar k L)).set (k * 3) (.int .i64 L[k].1)).set (k * 3 + 1) (.int .i64 L[k].2.1)).set (k * 3 + 2) (.string L[k].2.2) = cellsOf (sofar (k + 1) L) := by
  have e1 : sofar k L = L.take k ++ nil3 :: List.replicate (L.length - (k + 1)) nil3 := by
    unfold sofar
    rw [show L.length - k = (L.length - (k + 1)) + 1 by omega, List.replicate_succ]
  have e2 : sofar (k + 1) L = L.take k ++ L[k] :: List.replicate (L.length - (k + 1)) nil3 := by
    unfold sofar
    rw [List.take_add_one, List.getElem?_eq_getElem h, List.append_assoc]; rfl
  rw [e1, e2]
  exact set3 (L.take k) _ nil3 L[k] k (by rw [List.length_take]; omega)
set_option maxHeartbeats 2000000 in
theorem toENodeS_own (a : Option Addr) (cap : Nat) (L : List Stepx.Node) (w : World) (hN : Nodes w a L) (hlen : L.length ≤ 1048576) :
    Calls Try.prog 8 #[.slice a L.length cap] w fun e w' => e = .returned (.slice (some ⟨w.heap.size, 0, none⟩) L.length L.length) ∧ w'.ownsRow w.heap.size 48 3 (.slice (some ⟨w.heap.size, 0, none⟩) L.length L.length) L.length (cellsOf L) ∧ Below w.heap.size w w' := by
  obtain ⟨i0, hi, hz0, hz1, hz2⟩ := info_parts Mirror.infoN
  have SF : Hid (sofar 0 L = List.replicate L.length nil3 ∧ sofar L.length L = L) := ⟨by unfold sofar; simp, by unfold sofar; simp⟩
  obtain ⟨len, hl⟩ : ∃ len, len = L.length := ⟨_, rfl⟩
  have HL : Hid (len = L.length) := hl
  rw [← hl] at hlen ⊢
  clear hl
  have hmk : ∀ u : World, (Instr.makeSlice 28 (.int .i64 (len : Int)) (.int .i64 (len : Int))).run Try.prog u =
      .ok (.slice (some ⟨u.heap.size, 0, none⟩) len len) (u.alloc (.cells (madeCells #[.int .i64 0, .int .i64 0, .string ⟨#[]⟩] (len * 3)) 48)) := fun u => by
    have h := run_make (P := Try.prog) u 28 48 i0 (.agg #[.int .i64 0, .int .i64 0, .string ⟨#[]⟩]) Try.underlying28 hi hz0 .i64 .i64 (len : Int) (len : Int) (by omega) (Int.le_refl _) (by rw [hz2]; omega) (by omega)
    simpa [hz1, Value.cells] using h
  clear hz0 hz1 hz2 hi
  have P0 : Hid ((w.alloc (.cells (madeCells #[.int .i64 0, .int .i64 0, .string ⟨#[]⟩] (len * 3)) 48)).ownsRow w.heap.size 48 3 (.slice (some ⟨w.heap.size, 0, none⟩) len len) len (cellsOf (sofar 0 L))) := by
    rw [SF.out.1, ← HL.out]
    refine ⟨by rw [cells_len, List.length_replicate], .inr ⟨w.heap.size, len, _, rfl, Nat.le_refl _, heap_alloc_new w _, Nat.le_refl _, by unfold maxLen; omega, size_madeCells _ _, ?_⟩⟩
    rw [List.take_of_length_le (by rw [Array.length_toList, size_madeCells]; exact Nat.le_refl _), made3]
  go_enter Try.func8, Try.ntmps8
  go_wp2
  go_loopw [4] (fun i wr => ∃ k : Nat, k ≤ len ∧ i = .int .i64 k ∧ Hid (wr.ownsRow w.heap.size 48 3 (.slice (some ⟨w.heap.size, 0, none⟩) len len) len (cellsOf (sofar k L))) ∧ Hid (Below w.heap.size w wr)) (fun i _ => len - (intOf i).toNat)
  case atStart => exact ⟨0, Nat.zero_le _, rfl, P0.out, (Below.refl _ _).alloc (Nat.le_refl _) _⟩
  case round =>
    clear P0
    obtain ⟨k, hk, rfl, hown, hbel⟩ := hrel
    by_cases hlt : k < len
    · have hkL : k < L.length := by have := HL.out; omega
      rcases hN with hnil | ⟨b, off, rfl, hb, hc⟩
      · exfalso; rw [hnil] at hkL; exact absurd hkL (by simp)
      obtain ⟨c0, c1, c2⟩ : wr.cell? ⟨b, off + k * 3, none⟩ = some (.int .i64 L[k].1) ∧ wr.cell? ⟨b, off + k * 3 + 1, none⟩ = some (.int .i64 L[k].2.1) ∧ wr.cell? ⟨b, off + k * 3 + 2, none⟩ = some (.string L[k].2.2) := by
        obtain ⟨d0, d1, d2, d3⟩ := hc k hkL
        exact ⟨(hbel.out.cell (p := ⟨b, _, none⟩) hb).trans d0, (hbel.out.cell (p := ⟨b, _, none⟩) hb).trans d1, (hbel.out.cell (p := ⟨b, _, none⟩) hb).trans d2⟩
      clear hc
      have HS := (show Hid _ from sofar_step hkL)
      generalize L[k].1 = kd at c0 HS
      generalize L[k].2.1 = n at c1 HS
      generalize L[k].2.2 = s at c2 HS
      go_wp2_with fail
      refine (Mirror.toENode_any _ _ _ _).mono ?_
      rintro e w1 ⟨rfl, hb1⟩
      have own1 := own_belowG hown.out hb1
      have bel1 : Hid (Below w.heap.size w w1) := hbel.out.trans (hb1.mono hbel.out.size)
      have hln : (cellsOf (sofar k L)).length = len * 3 := own1.1
      have own2 := (own1.stored (k * 3) (.int .i64 kd)).1
      have own3 := (own2.stored (k * 3 + 1) (.int .i64 n)).1
      have own4 := (own3.stored (k * 3 + 2) (.string s)).1
      rw [HS.out] at own4
      have OW : Hid (World.ownsRow _ w.heap.size 48 3 (.slice (some ⟨w.heap.size, 0, none⟩) len len) len (cellsOf (sofar (k + 1) L))) := own4
      obtain ⟨u0, x0⟩ : ∃ x, w1.cell? ⟨w.heap.size, k * 3, none⟩ = some x := ⟨_, (own1.cellAt (k * 3) (by omega)).trans (List.getElem?_eq_getElem (by omega))⟩
      obtain ⟨u1, x1⟩ : ∃ x, w1.cell? ⟨w.heap.size, k * 3 + 1, none⟩ = some x := ⟨_, (own1.cellAt (k * 3 + 1) (by omega)).trans (List.getElem?_eq_getElem (by omega))⟩
      obtain ⟨u2, x2⟩ : ∃ x, w1.cell? ⟨w.heap.size, k * 3 + 2, none⟩ = some x := ⟨_, (own1.cellAt (k * 3 + 2) (by omega)).trans (List.getElem?_eq_getElem (by omega))⟩
      have f0 := own1.frozenAt (k * 3)
      have f1 := own1.frozenAt (k * 3 + 1)
      have f2 := own1.frozenAt (k * 3 + 2)
      clear hb1 hbel hown own1 own2 own3 own4 hln HS c0 c1 c2
      go_wp2
      go_roundw
      case rel => exact ⟨k + 1, by omega, by go_num, OW.out, ((bel1.out.setCell (Nat.le_refl _) _).setCell (Nat.le_refl _) _).setCell (Nat.le_refl _) _⟩
      case measure => simp [intOf]; omega
    · have e : k = len := by omega
      have HE : Hid (sofar k L = L) := by show _ = _; rw [e, HL.out]; exact SF.out.2
      clear hN e
      go_wp2
      go_ret
      exact ⟨rfl, by have h := hown.out; rw [HE.out] at h; exact h, hbel.out⟩
end Go.Proofs.Ytnlcfppgpbfmiaa.Nodo
