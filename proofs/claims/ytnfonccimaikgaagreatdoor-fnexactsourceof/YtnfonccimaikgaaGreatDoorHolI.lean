/-
  A contract of ours for impl.holeOf: the first of n8, n16, e8 that a text holds (strings.Contains off the shelf).
-/
import Derived.Test.YtnfonccimaikgaaGreatDoorHoleX
import Derived.Test.YtnfonccimaikgaaGreatDoorShelf
import Derived.Lib.IndexMore
import Derived.Deep.QuietTactic
namespace Go.Proofs.YtnfonccimaikgaaGreatDoor.HolI
open Go.ChangeShapes Go.WideShapes Go.ChangeAt Go.RowKit
open HoleX (n8 n16 e8)
set_option linter.unusedVariables false
set_option maxRecDepth 20000

/-- The library's variable MaxLen holds some number. -/
def MaxL (w : World) : Prop := ∃ m : Int, w.cell? ⟨1, 0, none⟩ = some (.int .i64 m)
theorem cell_lt {w : World} {p : Addr} {v : Value} (h : w.cell? p = some v) : p.block < w.heap.size := by
  by_cases hlt : p.block < w.heap.size
  · exact hlt
  · exfalso
    simp [World.cell?, Array.getElem?_eq_none (Nat.not_lt.mp hlt)] at h
theorem MaxL.below {w w' : World} (h : MaxL w) (b : Below w.heap.size w w') : MaxL w' := by
  obtain ⟨m, hm⟩ := h
  exact ⟨m, by rw [b.cell (cell_lt hm)]; exact hm⟩
/-- What was laid first reads on, whatever was laid behind it. -/
theorem box {w w' : World} {vs : Array Value} {T : TypeId} (h : Below (w.alloc (.cells vs T)).heap.size (w.alloc (.cells vs T)) w') (i : Nat) (v : Value) (hv : vs[i]? = some v) : w'.cell? ⟨w.heap.size, i, none⟩ = some v := by
  rw [h.cell (p := ⟨w.heap.size, i, none⟩) (by simp), World.cell?_alloc_new]
  exact hv
theorem unbox {w w' : World} {o : Obj} (h : Below (w.alloc o).heap.size (w.alloc o) w') : Below w.heap.size w w' := ((Below.refl _ _).alloc (Nat.le_refl _) _).trans (h.mono (by simp))
theorem after {a w w' : World} (h : Below a.heap.size a w) (k : Below w.heap.size w w') : Below a.heap.size a w' := h.trans (k.mono h.size)
def holeI (s : ByteArray) : ByteArray := if Lib.contains s.data.toList n8.data.toList = true then n8 else if Lib.contains s.data.toList n16.data.toList = true then n16 else if Lib.contains s.data.toList e8.data.toList = true then e8 else ⟨#[]⟩
theorem holeI_cases (s : ByteArray) : holeI s = ⟨#[110, 56]⟩ ∨ holeI s = ⟨#[110, 49, 54]⟩ ∨ holeI s = ⟨#[101, 56]⟩ ∨ holeI s = ⟨#[]⟩ := by
  unfold holeI
  split
  · exact .inl rfl
  split
  · exact .inr (.inl rfl)
  split
  · exact .inr (.inr (.inl rfl))
  · exact .inr (.inr (.inr rfl))
def No (s : ByteArray) (i : Nat) : Prop := (1 ≤ i → Lib.contains s.data.toList n8.data.toList = false) ∧ (2 ≤ i → Lib.contains s.data.toList n16.data.toList = false) ∧ (3 ≤ i → Lib.contains s.data.toList e8.data.toList = false)
theorem arr_0 (w : World) : (Instr.index 106 (.agg #[.string ⟨#[110, 56]⟩, .string ⟨#[110, 49, 54]⟩, .string ⟨#[101, 56]⟩]) (.int .i64 0)).run Tryz.prog w = .ok (.string ⟨#[110, 56]⟩) w := by kernel_rfl
theorem arr_1 (w : World) : (Instr.index 106 (.agg #[.string ⟨#[110, 56]⟩, .string ⟨#[110, 49, 54]⟩, .string ⟨#[101, 56]⟩]) (.int .i64 1)).run Tryz.prog w = .ok (.string ⟨#[110, 49, 54]⟩) w := by kernel_rfl
theorem arr_2 (w : World) : (Instr.index 106 (.agg #[.string ⟨#[110, 56]⟩, .string ⟨#[110, 49, 54]⟩, .string ⟨#[101, 56]⟩]) (.int .i64 2)).run Tryz.prog w = .ok (.string ⟨#[101, 56]⟩) w := by kernel_rfl
set_option maxHeartbeats 2000000 in
theorem holeOf_any (s : ByteArray) (w : World) (hs : s.size ≤ 1000) (hm : MaxL w) :
    Calls Tryz.prog 71 #[.string s] w fun e w' => e = .returned (.string (holeI s)) ∧ Below w.heap.size w w' := by
  obtain ⟨m, hm⟩ := hm
  go_enter Tryz.func71, Tryz.ntmps71
  have x0 := arr_0
  have x1 := arr_1
  have x2 := arr_2
  have HB : Hid (s.size < 4294967281) := by show s.size < 4294967281; omega
  clear hs
  go_wp2_with fail
  go_loopw [6] (fun i wr => ((i = .int .i64 0) ∨ (i = .int .i64 1 ∧ No s 1) ∨ (i = .int .i64 2 ∧ No s 2) ∨ (i = .int .i64 3 ∧ No s 3)) ∧ wr = w) (fun i _ => 3 - (intOf i).toNat)
  case atStart => exact ⟨.inl rfl, rfl⟩
  case round =>
    obtain ⟨hi, rfl⟩ := hrel
    rcases hi with rfl | ⟨rfl, ha⟩ | ⟨rfl, ha⟩ | ⟨rfl, ha⟩
    · cases hc : Lib.contains s.data.toList n8.data.toList
      · have HC : Hid (Lib.contains s.data.toList n8.data.toList = false) := hc
        have c := fun w hm => Tryz.strings_Contains s ⟨#[110, 56]⟩ m w HB.out hm
        rw [show Lib.contains s.data.toList (⟨#[110, 56]⟩ : ByteArray).data.toList = false from hc] at c
        clear hc
        go_wp2_with (go_at_call 93; refine (c _ hm).mono ?_; rintro e w' ⟨rfl, hw⟩; subst hw)
        go_roundw
        case rel => exact ⟨.inr (.inl ⟨by go_num, fun _ => HC.out, fun h => by omega, fun h => by omega⟩), trivial⟩
        case measure => simp [intOf]
      · have c := fun w hm => Tryz.strings_Contains s ⟨#[110, 56]⟩ m w HB.out hm
        rw [show Lib.contains s.data.toList (⟨#[110, 56]⟩ : ByteArray).data.toList = true from hc] at c
        have HR : Hid (Ending.returned (.string ⟨#[110, 56]⟩) = .returned (.string (holeI s))) := by show _ = _; unfold holeI; rw [if_pos hc]; rfl
        clear hc
        go_wp2_with (go_at_call 93; refine (c _ hm).mono ?_; rintro e w' ⟨rfl, hw⟩; subst hw)
        go_ret
        exact ⟨HR.out, Below.refl _ _⟩
    · have HA : Hid (No s 1) := ha
      clear ha
      cases hc : Lib.contains s.data.toList n16.data.toList
      · have HC : Hid (Lib.contains s.data.toList n16.data.toList = false) := hc
        have c := fun w hm => Tryz.strings_Contains s ⟨#[110, 49, 54]⟩ m w HB.out hm
        rw [show Lib.contains s.data.toList (⟨#[110, 49, 54]⟩ : ByteArray).data.toList = false from hc] at c
        clear hc
        go_wp2_with (go_at_call 93; refine (c _ hm).mono ?_; rintro e w' ⟨rfl, hw⟩; subst hw)
        go_roundw
        case rel => exact ⟨.inr (.inr (.inl ⟨by go_num, fun _ => HA.out.1 (by omega), fun _ => HC.out, fun h => by omega⟩)), trivial⟩
        case measure => simp [intOf]
      · have c := fun w hm => Tryz.strings_Contains s ⟨#[110, 49, 54]⟩ m w HB.out hm
        rw [show Lib.contains s.data.toList (⟨#[110, 49, 54]⟩ : ByteArray).data.toList = true from hc] at c
        have HR : Hid (Ending.returned (.string ⟨#[110, 49, 54]⟩) = .returned (.string (holeI s))) := by show _ = _; unfold holeI; rw [if_neg (by rw [HA.out.1 (by omega)]; decide), if_pos hc]; rfl
        clear hc
        go_wp2_with (go_at_call 93; refine (c _ hm).mono ?_; rintro e w' ⟨rfl, hw⟩; subst hw)
        go_ret
        exact ⟨HR.out, Below.refl _ _⟩
    · have HA : Hid (No s 2) := ha
      clear ha
      cases hc : Lib.contains s.data.toList e8.data.toList
      · have HC : Hid (Lib.contains s.data.toList e8.data.toList = false) := hc
        have c := fun w hm => Tryz.strings_Contains s ⟨#[101, 56]⟩ m w HB.out hm
        rw [show Lib.contains s.data.toList (⟨#[101, 56]⟩ : ByteArray).data.toList = false from hc] at c
        clear hc
        go_wp2_with (go_at_call 93; refine (c _ hm).mono ?_; rintro e w' ⟨rfl, hw⟩; subst hw)
        go_roundw
        case rel => exact ⟨.inr (.inr (.inr ⟨by go_num, fun _ => HA.out.1 (by omega), fun _ => HA.out.2.1 (by omega), fun _ => HC.out⟩)), trivial⟩
        case measure => simp [intOf]
      · have c := fun w hm => Tryz.strings_Contains s ⟨#[101, 56]⟩ m w HB.out hm
        rw [show Lib.contains s.data.toList (⟨#[101, 56]⟩ : ByteArray).data.toList = true from hc] at c
        have HR : Hid (Ending.returned (.string ⟨#[101, 56]⟩) = .returned (.string (holeI s))) := by show _ = _; unfold holeI; rw [if_neg (by rw [HA.out.1 (by omega)]; decide), if_neg (by rw [HA.out.2.1 (by omega)]; decide), if_pos hc]; rfl
        clear hc
        go_wp2_with (go_at_call 93; refine (c _ hm).mono ?_; rintro e w' ⟨rfl, hw⟩; subst hw)
        go_ret
        exact ⟨HR.out, Below.refl _ _⟩
    · have HR : Hid (Ending.returned (.string ⟨#[]⟩) = .returned (.string (holeI s))) := by
        show _ = _; unfold holeI; rw [if_neg (by rw [ha.1 (by omega)]; decide), if_neg (by rw [ha.2.1 (by omega)]; decide), if_neg (by rw [ha.2.2 (by omega)]; decide)]
      clear ha
      go_wp2
      go_ret
      exact ⟨HR.out, Below.refl _ _⟩
end Go.Proofs.YtnfonccimaikgaaGreatDoor.HolI
