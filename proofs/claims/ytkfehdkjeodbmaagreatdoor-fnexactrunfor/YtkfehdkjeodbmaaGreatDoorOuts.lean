/-
  Contracts of ours for rows of numbers: the laws' own helpers over them (sizes, copies, equality), and all bytes.
-/
import Derived.Test.YtkfehdkjeodbmaaGreatDoorCartN
import Derived.Test.YtkfehdkjeodbmaaGreatDoorCartR
import Derived.Deep.Strs
import Derived.Deep.RegionWith
namespace Go.Proofs.YtkfehdkjeodbmaaGreatDoor.Outs
set_option maxRecDepth 20000
open Go.ChangeShapes Go.WideShapes Go.ChangeAt Go.RowKit Go.Deep
set_option linter.unusedVariables false
open Signed (inB ret_int ret_bool isByte_any l1In_any)
open CartN (info_parts)

/-- A row of numbers, from a place on. -/
def Row (w : World) (a : Option Addr) (L : List Int) : Prop := L = [] ∨ ∃ b off, a = some ⟨b, off, none⟩ ∧ b < w.heap.size ∧ ∀ i (h : i < L.length), w.cell? ⟨b, off + i, none⟩ = some (.int .i64 L[i])
theorem Row.below {w w' : World} {a : Option Addr} {L : List Int} (h : Row w a L) (hb : Below w.heap.size w w') : Row w' a L := by
  rcases h with h | ⟨b, off, ha, hl, hc⟩
  · exact .inl h
  · exact .inr ⟨b, off, ha, Nat.lt_of_lt_of_le hl hb.size, fun i hi => (hb.cell (p := ⟨b, _, none⟩) hl).trans (hc i hi)⟩
theorem cells2 : Tryz.prog.cellsOf 2 = 1 := by kernel_rfl
theorem row_of {H : Type} {enc : TypeId × Value → H} {w : World} {base : Nat} {spare : Nat → Bool} {held : Bool} {fuel : Nat} {cs : List Value} {x : DataW H × List MemPlace}
    (h : DataW.trod enc Tryz.prog w base spare held fuel 26 cs = some x) : ∃ a len cap L, cs = [.slice a len cap] ∧ L.length = len ∧ len ≤ maxLen ∧ Row w a L := by
  rcases open_slice Tryz.underlying26 h with ⟨rfl, _⟩ | ⟨a, len, cap, m, n, D, Pl, rfl, hb, hl, hm, hmm, rfl, hx⟩
  · exact ⟨none, 0, 0, [], rfl, rfl, Nat.zero_le _, .inl rfl⟩
  have hlm : len ≤ m := by rw [hmm]; split <;> omega
  have each : ∀ i, i < len → ∃ q : Int, w.cell? (a.add i) = some (.int .i64 q) := by
    intro i hi
    obtain ⟨cs', h1, h2⟩ := hx i (by omega)
    rw [cells2] at h1
    obtain ⟨_, hlen, hcell⟩ := World.cells?_some h1
    match cs', hlen with
    | [v0], _ =>
      obtain ⟨n0, e0, _⟩ := DataW.trod_int Tryz.underlying2 h2
      simp at e0
      subst e0
      have d0 := hcell 0 (by omega)
      rw [add_add] at d0
      exact ⟨n0, by simpa using d0⟩
  obtain ⟨q, hq⟩ := choose_lt each
  refine ⟨some a, len, cap, (List.range len).map q, rfl, by simp, by omega, ?_⟩
  by_cases h0 : len = 0
  · subst h0; exact .inl rfl
  obtain ⟨b, off, spot⟩ := a
  have c0 := hq 0 (by omega)
  have hspot : spot = none := by simpa [Addr.add] using World.cell?_spot c0
  subst hspot
  have e : ∀ i, (⟨b, off, none⟩ : Addr).add i = ⟨b, off + i, none⟩ := fun i => by unfold Addr.add; split <;> simp_all
  refine .inr ⟨b, off, rfl, World.block_lt_of_cell? w ⟨b, off, none⟩ (by simpa [Addr.add] using c0), fun i hi => ?_⟩
  have hi' : i < len := by simpa using hi
  have d0 := hq i hi'
  rw [e] at d0
  simpa using d0

theorem szInt64S_any (a : Option Addr) (cap n : Nat) (m : Int) (w : World) (h0 : 0 ≤ m) (h1 : m ≤ 1048576) (hn : n ≤ maxLen) (q : Int) (hq : (if m - n < 0 then -1 else m - n) = q) :
    Calls Tryz.prog 22 #[.slice a n cap, .int .i64 m] w fun e w' => e = .returned (.int .i64 q) ∧ w' = w := by
  unfold maxLen at hn
  by_cases h : m - n < 0
  · rw [if_pos h] at hq
    subst hq
    go_enter Tryz.func22, Tryz.ntmps22
    go_wp2
    go_ret
    exact ⟨rfl, rfl⟩
  · rw [if_neg h] at hq
    subst hq
    go_enter Tryz.func22, Tryz.ntmps22
    go_wp2
    go_ret
    exact ⟨rfl, rfl⟩

/-- The first k numbers, and noughts behind them. -/
def rowA (L : List Int) (k : Nat) : Array Value := ((L.take k).map (Value.int .i64) ++ List.replicate (L.length - k) (Value.int .i64 0)).toArray
def rowO (L : List Int) : Obj := .cells (rowA L L.length) 2
theorem rowA_zero (L : List Int) : madeCells #[.int .i64 0] L.length = rowA L 0 := by
  apply Array.toList_inj.1
  rw [toList_madeCells_one]
  simp [rowA]
theorem rowA_get (L : List Int) (k : Nat) (h : k < L.length) : (rowA L k)[k]? = some (.int .i64 0) := by
  unfold rowA
  rw [List.getElem?_toArray, List.getElem?_append_right (by simp; omega)]
  simp [Nat.min_eq_left (Nat.le_of_lt h)]
  rw [List.getElem?_replicate, if_pos (by omega)]
theorem rowA_step (L : List Int) (k : Nat) (h : k < L.length) : (rowA L k).setIfInBounds k (.int .i64 L[k]) = rowA L (k + 1) := by
  apply Array.toList_inj.1
  unfold rowA
  rw [Array.toList_setIfInBounds]
  rw [List.set_append_right _ _ (by simp; omega)]
  have e1 : L.length - k = (L.length - (k + 1)) + 1 := by omega
  have e2 : ((L.take k).map (Value.int IntKind.i64)).length = k := by simp [Nat.min_eq_left (Nat.le_of_lt h)]
  rw [e2, e1, List.replicate_succ, Nat.sub_self, List.set_cons_zero, List.take_succ_eq_append_getElem h, List.map_append, List.append_assoc]
  rfl
theorem rowA_full (L : List Int) (i : Nat) (h : i < L.length) : (rowA L L.length)[i]? = some (.int .i64 L[i]) := by
  unfold rowA
  simp [h]
theorem infoI : (Tryz.prog.info? 2).map (fun i => (i.zero, i.size, i.bytes)) = some (some (.int .i64 0), 1, 8) := by kernel_rfl
theorem rowO_row (w : World) (L : List Int) : Row (w.alloc (rowO L)) (some ⟨w.heap.size, 0, none⟩) L := by
  refine .inr ⟨w.heap.size, 0, rfl, by simp, fun i hi => ?_⟩
  unfold rowO
  rw [Nat.zero_add, World.cell?_alloc_new]
  exact rowA_full L i hi

set_option maxHeartbeats 1000000 in
theorem toInt64S_any (a : Option Addr) (cap : Nat) (L : List Int) (w : World) (hN : Row w a L) (hlen : L.length ≤ 1048576) :
    Calls Tryz.prog 27 #[.slice a L.length cap] w fun e w' => e = .returned (.slice (some ⟨w.heap.size, 0, none⟩) L.length L.length) ∧ w' = w.alloc (rowO L) := by
  obtain ⟨i0, hi, hz0, hz1, hz2⟩ := info_parts infoI
  obtain ⟨len, hl⟩ : ∃ len, len = L.length := ⟨_, rfl⟩
  have HL : Hid (len = L.length) := hl
  rw [← hl] at hlen ⊢
  have hmk : ∀ u : World, (Instr.makeSlice 26 (.int .i64 (len : Int)) (.int .i64 (len : Int))).run Tryz.prog u =
      .ok (.slice (some ⟨u.heap.size, 0, none⟩) len len) (u.alloc (.cells (rowA L 0) 2)) := fun u => by
    have h := run_make (P := Tryz.prog) u 26 2 i0 (.int .i64 0) Tryz.underlying26 hi hz0 .i64 .i64 (len : Int) (len : Int) (by omega) (Int.le_refl _) (by rw [hz2]; omega) (by omega)
    rw [← rowA_zero, ← hl]
    simpa [hz1, Value.cells] using h
  clear hz0 hz1 hz2 hi hl
  go_enter Tryz.func27, Tryz.ntmps27
  go_wp2
  go_loopw [4] (fun i wr => ∃ k : Nat, k ≤ len ∧ i = .int .i64 k ∧ Hid (wr = w.alloc (.cells (rowA L k) 2))) (fun i _ => len - (intOf i).toNat)
  case atStart => exact ⟨0, Nat.zero_le _, rfl, rfl⟩
  case round =>
    obtain ⟨k, hk, rfl, hw⟩ := hrel
    by_cases hlt : k < len
    · have hkL : k < L.length := by have := HL.out; omega
      rcases hN with hnil | ⟨b, off, rfl, hb, hc⟩
      · exfalso; rw [hnil] at hkL; exact absurd hkL (by simp)
      have c0 : wr.cell? ⟨b, off + k, none⟩ = some (.int .i64 L[k]) := by
        rw [hw.out, ← hc k hkL]
        exact ((Below.refl w.heap.size w).alloc (Nat.le_refl _) _).cell (p := ⟨b, _, none⟩) hb
      clear hc
      have S : Hid (wr.setCell ⟨w.heap.size, k, none⟩ (.int .i64 L[k]) = w.alloc (.cells (rowA L (k + 1)) 2)) := by
        have h := World.setCell_alloc_new (w := w) (rowA L k) 2 k (.int .i64 L[k])
        rw [rowA_step L k hkL] at h
        rw [hw.out]
        exact h
      have x0 : wr.cell? ⟨w.heap.size, k, none⟩ = some (.int .i64 0) := by rw [hw.out, World.cell?_alloc_new]; exact rowA_get L k hkL
      have f0 : wr.frozen? ⟨w.heap.size, k, none⟩ = false := by rw [hw.out]; exact World.frozen?_alloc_at _ _ _ _ rfl
      generalize L[k] = n at c0 S
      go_wp2
      go_roundw
      case rel => exact ⟨k + 1, by omega, by go_num, S.out⟩
      case measure => simp [intOf]; omega
    · clear hN
      have e : k = len := by omega
      subst e
      go_wp2
      go_ret
      exact ⟨rfl, by rw [hw.out, HL.out]; rfl⟩

set_option maxHeartbeats 1000000 in
theorem eqInt64S_any (a a' : Option Addr) (cap cap' : Nat) (L : List Int) (w : World) (hN : Row w a L) (hN' : Row w a' L) (hlen : L.length ≤ 1048576) :
    Calls Tryz.prog 33 #[.slice a L.length cap, .slice a' L.length cap'] w fun e w' => e = .returned (.bool true) ∧ ∃ n, w' = w.drewN n := by
  obtain ⟨len, hl⟩ : ∃ len, len = L.length := ⟨_, rfl⟩
  have HL : Hid (len = L.length) := hl
  rw [← hl] at hlen ⊢
  clear hl
  go_enter Tryz.func33, Tryz.ntmps33
  go_wp2
  go_loopw [5] (fun i wr => ∃ k n : Nat, k ≤ len ∧ i = .int .i64 k ∧ wr = w.drewN n) (fun i _ => len - (intOf i).toNat)
  case atStart => exact ⟨0, 0, Nat.zero_le _, rfl, rfl⟩
  case round =>
    obtain ⟨k, n, hk, rfl, rfl⟩ := hrel
    by_cases hlt : k < len
    · have hkL : k < L.length := by have := HL.out; omega
      rcases hN with hnil | ⟨b, off, rfl, hb, hc⟩
      · exfalso; rw [hnil] at hkL; exact absurd hkL (by simp)
      rcases hN' with hnil | ⟨b', off', rfl, hb', hc'⟩
      · exfalso; rw [hnil] at hkL; exact absurd hkL (by simp)
      have c0 : w.cell? ⟨b, off + k, none⟩ = some (.int .i64 L[k]) := hc k hkL
      have e0 : w.cell? ⟨b', off' + k, none⟩ = some (.int .i64 L[k]) := hc' k hkL
      clear hc hc'
      generalize L[k] = kd at c0 e0
      have k0 : (0 : Int) ≤ (k : Int) := by omega
      have k1 : (k : Int) < (len : Int) := by omega
      go_wp2_with fail
      go_quiet (fail)
      go_wp2
      go_roundw
      case rel => exact ⟨k + 1, _, by omega, by go_num, rfl⟩
      case measure => simp [intOf]; omega
    · clear hN hN'
      go_wp2
      go_ret
      exact ⟨rfl, n, rfl⟩
end Go.Proofs.YtkfehdkjeodbmaaGreatDoor.Outs
