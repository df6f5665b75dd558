/-
  A contract of ours for spec.l3Hole: of any short text it tells the first of the three holes that stands in it, and where; it writes nothing old.
-/
import Derived.Test.YtnfonccimaikgaaGreatDoorHole
namespace Go.Proofs.YtnfonccimaikgaaGreatDoor.HoleX
open Go.ChangeShapes Go.WideShapes Go.ChangeAt Go.RowKit
open Hole (below_drewN slice_3 slice_2)
set_option linter.unusedVariables false
set_option maxRecDepth 20000

def firstAt (t h : ByteArray) : Nat → Nat → Option Nat
  | 0, _ => none
  | f + 1, k => if k + h.size ≤ t.size then (if t.extract k (k + h.size) = h then some k else firstAt t h f (k + 1)) else none
def n16 : ByteArray := ⟨#[110, 49, 54]⟩
def n8 : ByteArray := ⟨#[110, 56]⟩
def e8 : ByteArray := ⟨#[101, 56]⟩
def at1 (t h : ByteArray) : Option Nat := firstAt t h (t.size + 1) 0
def holeP (t : ByteArray) : Int :=
  match at1 t n16 with
  | some k => k
  | none => match at1 t n8 with
    | some k => k
    | none => match at1 t e8 with
      | some k => k
      | none => -1
def holeT (t : ByteArray) : ByteArray := if (at1 t n16).isSome then n16 else if (at1 t n8).isSome then n8 else if (at1 t e8).isSome then e8 else ⟨#[]⟩
theorem firstAt_hit {t h : ByteArray} {m : Nat} (hm : m ≤ t.size) (h1 : m + h.size ≤ t.size) (h2 : t.extract m (m + h.size) = h) (e : at1 t h = firstAt t h (t.size + 1 - m) m) : at1 t h = some m := by
  rw [e, show t.size + 1 - m = (t.size - m) + 1 by omega, firstAt, if_pos h1, if_pos h2]
theorem firstAt_next {t h : ByteArray} {m : Nat} (hm : m ≤ t.size) (h1 : m + h.size ≤ t.size) (h2 : ¬ t.extract m (m + h.size) = h) (e : at1 t h = firstAt t h (t.size + 1 - m) m) : at1 t h = firstAt t h (t.size + 1 - (m + 1)) (m + 1) := by
  rw [e, show t.size + 1 - m = (t.size + 1 - (m + 1)) + 1 by omega, firstAt, if_pos h1, if_neg h2]
theorem firstAt_end {t h : ByteArray} {m : Nat} (hm : m ≤ t.size) (h1 : ¬ m + h.size ≤ t.size) (e : at1 t h = firstAt t h (t.size + 1 - m) m) : at1 t h = none := by
  rw [e, show t.size + 1 - m = (t.size - m) + 1 by omega, firstAt, if_neg h1]
def ret (t : ByteArray) : Ending := .returned (.tuple #[.int .i64 (holeP t), .string (holeT t)])
theorem ret_n16 {t : ByteArray} {m : Nat} (h : at1 t n16 = some m) : Ending.returned (.tuple #[.int .i64 (m : Int), .string ⟨#[110, 49, 54]⟩]) = ret t := by
  unfold ret holeP holeT; rw [h]; rfl
theorem ret_n8 {t : ByteArray} {m : Nat} (h0 : at1 t n16 = none) (h : at1 t n8 = some m) : Ending.returned (.tuple #[.int .i64 (m : Int), .string ⟨#[110, 56]⟩]) = ret t := by
  unfold ret holeP holeT; rw [h0, h]; rfl
theorem ret_e8 {t : ByteArray} {m : Nat} (h0 : at1 t n16 = none) (h1 : at1 t n8 = none) (h : at1 t e8 = some m) : Ending.returned (.tuple #[.int .i64 (m : Int), .string ⟨#[101, 56]⟩]) = ret t := by
  unfold ret holeP holeT; rw [h0, h1, h]; rfl
theorem ret_no {t : ByteArray} (h0 : at1 t n16 = none) (h1 : at1 t n8 = none) (h : at1 t e8 = none) : Ending.returned (.tuple #[.int .i64 (-1), .string ⟨#[]⟩]) = ret t := by
  unfold ret holeP holeT; rw [h0, h1, h]; rfl
theorem lits_ne {X : ByteArray} {l : List UInt8} (h : ¬ X = ⟨l.toArray⟩) : (X.toList == l) = false := by
  rw [ByteArray.toList_eq]
  cases hb : X.data.toList == l
  · rfl
  · exfalso
    apply h
    have := eq_of_beq hb
    cases X with | mk d => cases d with | mk d => simp only at this; rw [← this]
def At (t : ByteArray) (i : Nat) : Prop := (1 ≤ i → at1 t n16 = none) ∧ (2 ≤ i → at1 t n8 = none) ∧ (3 ≤ i → at1 t e8 = none)
set_option maxHeartbeats 2000000 in
theorem hole_any (t : ByteArray) (w : World) (ht : t.size ≤ 1000) :
    Calls Tryz.prog 35 #[.string t] w fun e w' => e = ret t ∧ Below w.heap.size w w' := by
  go_enter Tryz.func35, Tryz.ntmps35
  go_wp2
  have HB : Hid (Below w.heap.size w (w.alloc (.cells #[.string ⟨#[110, 49, 54]⟩, .string ⟨#[110, 56]⟩, .string ⟨#[101, 56]⟩] 9))) := (Below.refl _ _).alloc (Nat.le_refl _) _
  have c0 : (w.alloc (.cells #[.string ⟨#[110, 49, 54]⟩, .string ⟨#[110, 56]⟩, .string ⟨#[101, 56]⟩] 9)).cell? ⟨w.heap.size, 0, none⟩ = some (.string ⟨#[110, 49, 54]⟩) := World.cell?_alloc_new _ _ _ _
  have c1 : (w.alloc (.cells #[.string ⟨#[110, 49, 54]⟩, .string ⟨#[110, 56]⟩, .string ⟨#[101, 56]⟩] 9)).cell? ⟨w.heap.size, 1, none⟩ = some (.string ⟨#[110, 56]⟩) := World.cell?_alloc_new _ _ _ _
  have c2 : (w.alloc (.cells #[.string ⟨#[110, 49, 54]⟩, .string ⟨#[110, 56]⟩, .string ⟨#[101, 56]⟩] 9)).cell? ⟨w.heap.size, 2, none⟩ = some (.string ⟨#[101, 56]⟩) := World.cell?_alloc_new _ _ _ _
  generalize w.alloc (.cells #[.string ⟨#[110, 49, 54]⟩, .string ⟨#[110, 56]⟩, .string ⟨#[101, 56]⟩] 9) = W at *
  go_loopw [5] (fun i wr => ∃ n : Nat, ((i = .int .i64 0 ∧ At t 0) ∨ (i = .int .i64 1 ∧ At t 1) ∨ (i = .int .i64 2 ∧ At t 2) ∨ (i = .int .i64 3 ∧ At t 3)) ∧ wr = W.drewN n) (fun i _ => 3 - (intOf i).toNat)
  case atStart => exact ⟨0, .inl ⟨rfl, by unfold At; refine ⟨fun h => ?_, fun h => ?_, fun h => ?_⟩ <;> omega⟩, rfl⟩
  case round =>
    obtain ⟨n, hi, rfl⟩ := hrel
    rcases hi with ⟨rfl, ha⟩ | ⟨rfl, ha⟩ | ⟨rfl, ha⟩ | ⟨rfl, ha⟩
    · have ha : Hid (At t 0) := ha
      go_wp2
      go_loopw [6] (fun i wr => ∃ m n : Nat, m ≤ t.size ∧ i = .int .i64 m ∧ wr = W.drewN n ∧ at1 t n16 = firstAt t n16 (t.size + 1 - m) m) (fun i _ => t.size - (intOf i).toNat)
      case atStart => exact ⟨0, n, Nat.zero_le _, rfl, rfl, rfl⟩
      case round =>
        obtain ⟨m, n2, hm, rfl, rfl, he⟩ := hrel
        by_cases hlt : m + 3 ≤ t.size
        · have s1 := slice_3 t m hlt
          have HM : Hid (m ≤ t.size ∧ m + 3 ≤ t.size ∧ at1 t n16 = firstAt t n16 (t.size + 1 - m) m) := ⟨hm, hlt, he⟩
          clear he
          have k0 : (0 : Int) ≤ (m : Int) := by omega
          have k1 : (m : Int) + 3 ≤ (t.size : Int) := by omega
          have k2 : (m : Int) ≤ (m : Int) + 3 := by omega
          have k4 : IntKind.i64.wrap ((m : Int) + 3) = (m : Int) + 3 := by rw [IntKind.wrap_i64]; omega
          by_cases hx : t.extract m (m + 3) = ⟨#[110, 49, 54]⟩
          · have HX : Hid (t.extract m (m + 3) = ⟨#[110, 49, 54]⟩) := hx
            have hy : (t.extract m (m + 3) == ⟨#[110, 49, 54]⟩) = true := by rw [hx]; rfl
            rw [hx] at s1
            clear hx hy
            go_wp2_with fail
            go_quiet (fail)
            go_wp2_with fail
            go_quiet (fail)
            go_wp2
            go_ret2
            exact ⟨ret_n16 (firstAt_hit HM.out.1 HM.out.2.1 HX.out HM.out.2.2), by repeat' (with_reducible first | exact HB.out | refine below_drewN ?_ _)⟩
          · have HX : Hid (¬ t.extract m (m + 3) = ⟨#[110, 49, 54]⟩) := hx
            have hy : ((t.extract m (m + 3)).toList == [110, 49, 54]) = false := lits_ne hx
            clear hx
            generalize t.extract m (m + 3) = X at s1 hy
            go_wp2_with fail
            go_quiet (fail)
            go_wp2_with fail
            go_roundw
            case rel => exact ⟨m + 1, _, by have := HM.out.2.1; omega, by go_num, rfl, firstAt_next HM.out.1 HM.out.2.1 HX.out HM.out.2.2⟩
            case measure => have := HM.out.2.1; simp [intOf]; omega
        · have HE : Hid (at1 t n16 = none) := firstAt_end hm hlt he
          clear he
          go_wp2
          go_roundw
          case rel =>
            have HE := HE.out
            exact ⟨_, .inr (.inl ⟨rfl, ⟨fun _ => HE, fun h => by omega, fun h => by omega⟩⟩), rfl⟩
          case measure => simp [intOf]
    · have ha : Hid (At t 1) := ha
      go_wp2
      go_loopw [6] (fun i wr => ∃ m n : Nat, m ≤ t.size ∧ i = .int .i64 m ∧ wr = W.drewN n ∧ at1 t n8 = firstAt t n8 (t.size + 1 - m) m) (fun i _ => t.size - (intOf i).toNat)
      case atStart => exact ⟨0, n, Nat.zero_le _, rfl, rfl, rfl⟩
      case round =>
        obtain ⟨m, n2, hm, rfl, rfl, he⟩ := hrel
        by_cases hlt : m + 2 ≤ t.size
        · have s1 := slice_2 t m hlt
          have HM : Hid (m ≤ t.size ∧ m + 2 ≤ t.size ∧ at1 t n8 = firstAt t n8 (t.size + 1 - m) m) := ⟨hm, hlt, he⟩
          clear he
          have k0 : (0 : Int) ≤ (m : Int) := by omega
          have k1 : (m : Int) + 2 ≤ (t.size : Int) := by omega
          have k2 : (m : Int) ≤ (m : Int) + 2 := by omega
          have k4 : IntKind.i64.wrap ((m : Int) + 2) = (m : Int) + 2 := by rw [IntKind.wrap_i64]; omega
          by_cases hx : t.extract m (m + 2) = ⟨#[110, 56]⟩
          · have HX : Hid (t.extract m (m + 2) = ⟨#[110, 56]⟩) := hx
            have hy : (t.extract m (m + 2) == ⟨#[110, 56]⟩) = true := by rw [hx]; rfl
            rw [hx] at s1
            clear hx hy
            go_wp2_with fail
            go_quiet (fail)
            go_wp2_with fail
            go_quiet (fail)
            go_wp2
            go_ret2
            exact ⟨ret_n8 (ha.out.1 (by omega)) (firstAt_hit HM.out.1 HM.out.2.1 HX.out HM.out.2.2), by repeat' (with_reducible first | exact HB.out | refine below_drewN ?_ _)⟩
          · have HX : Hid (¬ t.extract m (m + 2) = ⟨#[110, 56]⟩) := hx
            have hy : ((t.extract m (m + 2)).toList == [110, 56]) = false := lits_ne hx
            clear hx
            generalize t.extract m (m + 2) = X at s1 hy
            go_wp2_with fail
            go_quiet (fail)
            go_wp2_with fail
            go_roundw
            case rel => exact ⟨m + 1, _, by have := HM.out.2.1; omega, by go_num, rfl, firstAt_next HM.out.1 HM.out.2.1 HX.out HM.out.2.2⟩
            case measure => have := HM.out.2.1; simp [intOf]; omega
        · have HE : Hid (at1 t n8 = none) := firstAt_end hm hlt he
          clear he
          go_wp2
          go_roundw
          case rel =>
            have HE := HE.out
            exact ⟨_, .inr (.inr (.inl ⟨rfl, ⟨fun _ => ha.out.1 (by omega), fun _ => HE, fun h => by omega⟩⟩)), rfl⟩
          case measure => simp [intOf]
    · have ha : Hid (At t 2) := ha
      go_wp2
      go_loopw [6] (fun i wr => ∃ m n : Nat, m ≤ t.size ∧ i = .int .i64 m ∧ wr = W.drewN n ∧ at1 t e8 = firstAt t e8 (t.size + 1 - m) m) (fun i _ => t.size - (intOf i).toNat)
      case atStart => exact ⟨0, n, Nat.zero_le _, rfl, rfl, rfl⟩
      case round =>
        obtain ⟨m, n2, hm, rfl, rfl, he⟩ := hrel
        by_cases hlt : m + 2 ≤ t.size
        · have s1 := slice_2 t m hlt
          have HM : Hid (m ≤ t.size ∧ m + 2 ≤ t.size ∧ at1 t e8 = firstAt t e8 (t.size + 1 - m) m) := ⟨hm, hlt, he⟩
          clear he
          have k0 : (0 : Int) ≤ (m : Int) := by omega
          have k1 : (m : Int) + 2 ≤ (t.size : Int) := by omega
          have k2 : (m : Int) ≤ (m : Int) + 2 := by omega
          have k4 : IntKind.i64.wrap ((m : Int) + 2) = (m : Int) + 2 := by rw [IntKind.wrap_i64]; omega
          by_cases hx : t.extract m (m + 2) = ⟨#[101, 56]⟩
          · have HX : Hid (t.extract m (m + 2) = ⟨#[101, 56]⟩) := hx
            have hy : (t.extract m (m + 2) == ⟨#[101, 56]⟩) = true := by rw [hx]; rfl
            rw [hx] at s1
            clear hx hy
            go_wp2_with fail
            go_quiet (fail)
            go_wp2_with fail
            go_quiet (fail)
            go_wp2
            go_ret2
            exact ⟨ret_e8 (ha.out.1 (by omega)) (ha.out.2.1 (by omega)) (firstAt_hit HM.out.1 HM.out.2.1 HX.out HM.out.2.2), by repeat' (with_reducible first | exact HB.out | refine below_drewN ?_ _)⟩
          · have HX : Hid (¬ t.extract m (m + 2) = ⟨#[101, 56]⟩) := hx
            have hy : ((t.extract m (m + 2)).toList == [101, 56]) = false := lits_ne hx
            clear hx
            generalize t.extract m (m + 2) = X at s1 hy
            go_wp2_with fail
            go_quiet (fail)
            go_wp2_with fail
            go_roundw
            case rel => exact ⟨m + 1, _, by have := HM.out.2.1; omega, by go_num, rfl, firstAt_next HM.out.1 HM.out.2.1 HX.out HM.out.2.2⟩
            case measure => have := HM.out.2.1; simp [intOf]; omega
        · have HE : Hid (at1 t e8 = none) := firstAt_end hm hlt he
          clear he
          go_wp2
          go_roundw
          case rel =>
            have HE := HE.out
            exact ⟨_, .inr (.inr (.inr ⟨rfl, ⟨fun _ => ha.out.1 (by omega), fun _ => ha.out.2.1 (by omega), fun _ => HE⟩⟩)), rfl⟩
          case measure => simp [intOf]
    · have ha : Hid (At t 3) := ha
      go_wp2
      go_ret2
      exact ⟨ret_no (ha.out.1 (by omega)) (ha.out.2.1 (by omega)) (ha.out.2.2 (by omega)), by repeat' (with_reducible first | exact HB.out | refine below_drewN ?_ _)⟩
end Go.Proofs.YtnfonccimaikgaaGreatDoor.HoleX
