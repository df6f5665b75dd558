/-
  A contract of ours for spec.l3Hole: of any short text it tells a place and a text, and writes nothing old.
-/
import Derived.Test.YtnfonccimaikgaaGreatDoorTabs
import Derived.Deep.QuietTactic
import Derived.BigQuiet
import Derived.LoopN
import Derived.Laws.BytesArg
namespace Go.Proofs.YtnfonccimaikgaaGreatDoor.Hole
open Go.ChangeShapes Go.WideShapes Go.ChangeAt Go.RowKit
set_option linter.unusedVariables false
set_option maxRecDepth 20000

theorem below_drewN {B : Nat} {a b : World} (h : Below B a b) (n : Nat) : Below B a (b.drewN n) := ⟨h.os, h.tape, h.output, h.size, h.block⟩
theorem slice_3 (s : ByteArray) (k : Nat) (h : k + 3 ≤ s.size) (w : World) : (Instr.slice 9 (.string s) (some (.int .i64 (k : Int))) (some (.int .i64 ((k : Int) + 3))) none).run Tryz.prog w = .ok (.string (s.extract k (k + 3))) w := by
  have := run_slice_string (P := Tryz.prog) w 9 s .i64 .i64 (k : Int) ((k : Int) + 3) Tryz.underlying9 (by omega) (by omega) (by omega)
  rw [show ((k : Int) + 3).toNat = k + 3 by omega, Int.toNat_natCast] at this
  exact this
theorem slice_2 (s : ByteArray) (k : Nat) (h : k + 2 ≤ s.size) (w : World) : (Instr.slice 9 (.string s) (some (.int .i64 (k : Int))) (some (.int .i64 ((k : Int) + 2))) none).run Tryz.prog w = .ok (.string (s.extract k (k + 2))) w := by
  have := run_slice_string (P := Tryz.prog) w 9 s .i64 .i64 (k : Int) ((k : Int) + 2) Tryz.underlying9 (by omega) (by omega) (by omega)
  rw [show ((k : Int) + 2).toNat = k + 2 by omega, Int.toNat_natCast] at this
  exact this

def Told (e : Ending) : Prop := ∃ (i : Int) (h : ByteArray), e = .returned (.tuple #[.int .i64 i, .string h])
set_option maxHeartbeats 2000000 in
theorem hole_any (t : ByteArray) (w : World) (ht : t.size ≤ 1000) :
    Calls Tryz.prog 35 #[.string t] w fun e w' => Told e ∧ Below w.heap.size w w' := by
  go_enter Tryz.func35, Tryz.ntmps35
  go_wp2
  have HB : Hid (Below w.heap.size w (w.alloc (.cells #[.string ⟨#[110, 49, 54]⟩, .string ⟨#[110, 56]⟩, .string ⟨#[101, 56]⟩] 9))) := (Below.refl _ _).alloc (Nat.le_refl _) _
  have c0 : (w.alloc (.cells #[.string ⟨#[110, 49, 54]⟩, .string ⟨#[110, 56]⟩, .string ⟨#[101, 56]⟩] 9)).cell? ⟨w.heap.size, 0, none⟩ = some (.string ⟨#[110, 49, 54]⟩) := World.cell?_alloc_new _ _ _ _
  have c1 : (w.alloc (.cells #[.string ⟨#[110, 49, 54]⟩, .string ⟨#[110, 56]⟩, .string ⟨#[101, 56]⟩] 9)).cell? ⟨w.heap.size, 1, none⟩ = some (.string ⟨#[110, 56]⟩) := World.cell?_alloc_new _ _ _ _
  have c2 : (w.alloc (.cells #[.string ⟨#[110, 49, 54]⟩, .string ⟨#[110, 56]⟩, .string ⟨#[101, 56]⟩] 9)).cell? ⟨w.heap.size, 2, none⟩ = some (.string ⟨#[101, 56]⟩) := World.cell?_alloc_new _ _ _ _
  generalize w.alloc (.cells #[.string ⟨#[110, 49, 54]⟩, .string ⟨#[110, 56]⟩, .string ⟨#[101, 56]⟩] 9) = W at *
  go_loopw [5] (fun i wr => ∃ n : Nat, (i = .int .i64 0 ∨ i = .int .i64 1 ∨ i = .int .i64 2 ∨ i = .int .i64 3) ∧ wr = W.drewN n) (fun i _ => 3 - (intOf i).toNat)
  case atStart => exact ⟨0, .inl rfl, rfl⟩
  case round =>
    obtain ⟨n, hi, rfl⟩ := hrel
    rcases hi with rfl | rfl | rfl | rfl
    · go_wp2
      go_loopw [6] (fun i wr => ∃ m n : Nat, m ≤ t.size ∧ i = .int .i64 m ∧ wr = W.drewN n) (fun i _ => t.size - (intOf i).toNat)
      case atStart => exact ⟨0, n, Nat.zero_le _, rfl, rfl⟩
      case round =>
        obtain ⟨m, n2, hm, rfl, rfl⟩ := hrel
        by_cases hlt : m + 3 ≤ t.size
        · have s1 := slice_3 t m hlt
          have k0 : (0 : Int) ≤ (m : Int) := by omega
          have k1 : (m : Int) + 3 ≤ (t.size : Int) := by omega
          have k2 : (m : Int) ≤ (m : Int) + 3 := by omega
          have k4 : IntKind.i64.wrap ((m : Int) + 3) = (m : Int) + 3 := by rw [IntKind.wrap_i64]; omega
          have HN : Hid (m + 1 ≤ t.size) := by show m + 1 ≤ t.size; omega
          go_wp2_with fail
          go_quiet (fail)
          go_wp2_with fail
          · go_quiet (fail)
            go_wp2
            go_ret2
            exact ⟨⟨_, _, rfl⟩, by repeat' (with_reducible first | exact HB.out | refine below_drewN ?_ _)⟩
          · go_roundw
            case rel => exact ⟨m + 1, _, HN.out, by go_num, rfl⟩
            case measure => have := HN.out; simp [intOf]; omega
        · go_wp2
          go_roundw
          case rel => exact ⟨_, .inr (.inl rfl), rfl⟩
          case measure => simp [intOf]
    · go_wp2
      go_loopw [6] (fun i wr => ∃ m n : Nat, m ≤ t.size ∧ i = .int .i64 m ∧ wr = W.drewN n) (fun i _ => t.size - (intOf i).toNat)
      case atStart => exact ⟨0, n, Nat.zero_le _, rfl, rfl⟩
      case round =>
        obtain ⟨m, n2, hm, rfl, rfl⟩ := hrel
        by_cases hlt : m + 2 ≤ t.size
        · have s1 := slice_2 t m hlt
          have k0 : (0 : Int) ≤ (m : Int) := by omega
          have k1 : (m : Int) + 2 ≤ (t.size : Int) := by omega
          have k2 : (m : Int) ≤ (m : Int) + 2 := by omega
          have k4 : IntKind.i64.wrap ((m : Int) + 2) = (m : Int) + 2 := by rw [IntKind.wrap_i64]; omega
          have HN : Hid (m + 1 ≤ t.size) := by show m + 1 ≤ t.size; omega
          go_wp2_with fail
          go_quiet (fail)
          go_wp2_with fail
          · go_quiet (fail)
            go_wp2
            go_ret2
            exact ⟨⟨_, _, rfl⟩, by repeat' (with_reducible first | exact HB.out | refine below_drewN ?_ _)⟩
          · go_roundw
            case rel => exact ⟨m + 1, _, HN.out, by go_num, rfl⟩
            case measure => have := HN.out; simp [intOf]; omega
        · go_wp2
          go_roundw
          case rel => exact ⟨_, .inr (.inr (.inl rfl)), rfl⟩
          case measure => simp [intOf]
    · go_wp2
      go_loopw [6] (fun i wr => ∃ m n : Nat, m ≤ t.size ∧ i = .int .i64 m ∧ wr = W.drewN n) (fun i _ => t.size - (intOf i).toNat)
      case atStart => exact ⟨0, n, Nat.zero_le _, rfl, rfl⟩
      case round =>
        obtain ⟨m, n2, hm, rfl, rfl⟩ := hrel
        by_cases hlt : m + 2 ≤ t.size
        · have s1 := slice_2 t m hlt
          have k0 : (0 : Int) ≤ (m : Int) := by omega
          have k1 : (m : Int) + 2 ≤ (t.size : Int) := by omega
          have k2 : (m : Int) ≤ (m : Int) + 2 := by omega
          have k4 : IntKind.i64.wrap ((m : Int) + 2) = (m : Int) + 2 := by rw [IntKind.wrap_i64]; omega
          have HN : Hid (m + 1 ≤ t.size) := by show m + 1 ≤ t.size; omega
          go_wp2_with fail
          go_quiet (fail)
          go_wp2_with fail
          · go_quiet (fail)
            go_wp2
            go_ret2
            exact ⟨⟨_, _, rfl⟩, by repeat' (with_reducible first | exact HB.out | refine below_drewN ?_ _)⟩
          · go_roundw
            case rel => exact ⟨m + 1, _, HN.out, by go_num, rfl⟩
            case measure => have := HN.out; simp [intOf]; omega
        · go_wp2
          go_roundw
          case rel => exact ⟨_, .inr (.inr (.inr rfl)), rfl⟩
          case measure => simp [intOf]
    · go_wp2
      go_ret2
      exact ⟨⟨_, _, rfl⟩, by repeat' (with_reducible first | exact HB.out | refine below_drewN ?_ _)⟩
end Go.Proofs.YtnfonccimaikgaaGreatDoor.Hole
