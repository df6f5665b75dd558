/-
  Contracts of ours for the specification's reader of expressions (l2P): op, level, value; spec.Compiled.
-/
import Derived.Test.YtfgabgihdcokdaaCmpa
import Derived.Lib.QuietBelow
import Derived.Deep.Cut
namespace Go.Proofs.Ytfgabgihdcokdaa.Cmpb
open Go.ChangeShapes Go.WideShapes Go.ChangeAt Go.RowKit Go.Deep
open Cmpa
set_option linter.unusedVariables false
set_option maxRecDepth 20000

def opLen (k : Int) : Nat := if 16 ≤ k then 2 else 1
def opTab : List ByteArray := [⟨#[]⟩, ⟨#[]⟩, ⟨#[]⟩, ⟨#[]⟩, ⟨#[110, 101, 103]⟩, ⟨#[110, 111, 116]⟩, ⟨#[104, 105, 103, 104]⟩, ⟨#[108, 111, 119]⟩, ⟨#[43]⟩, ⟨#[45]⟩, ⟨#[42]⟩, ⟨#[47]⟩, ⟨#[37]⟩, ⟨#[38]⟩, ⟨#[94]⟩, ⟨#[124]⟩, ⟨#[60, 60]⟩, ⟨#[62, 62]⟩]
def wordsA : Array Value := (opTab.map Value.string).toArray
theorem tab_at : ∀ k : Nat, 8 ≤ k → k ≤ 17 → (opTab.getD k ⟨#[]⟩).size = opLen (k : Int) := by
  intro k h0 h1
  have : k = 8 ∨ k = 9 ∨ k = 10 ∨ k = 11 ∨ k = 12 ∨ k = 13 ∨ k = 14 ∨ k = 15 ∨ k = 16 ∨ k = 17 := by omega
  rcases this with rfl | rfl | rfl | rfl | rfl | rfl | rfl | rfl | rfl | rfl <;> rfl
theorem words_at (k : Nat) (h : k < 18) : wordsA[k]? = some (.string (opTab.getD k ⟨#[]⟩)) := by
  unfold wordsA
  simp [List.getElem?_map, List.getD_eq_getElem?_getD, List.getElem?_eq_getElem (show k < opTab.length from h)]
theorem words_any (w : World) : Calls Try.prog 64 #[] w fun e w' => e = .returned (.slice (some ⟨w.heap.size, 0, none⟩) 18 18) ∧ w' = w.alloc (.cells wordsA 9) := by
  go_enter Try.func64, Try.ntmps64
  go_wp2
  go_ret
  exact ⟨rfl, rfl⟩

set_option maxHeartbeats 1000000 in
theorem l2Level_any (k : Int) (w : World) : Calls Try.prog 63 #[.int .i64 k] w fun e w' => (∃ z : Int, 1 ≤ z ∧ z ≤ 6 ∧ e = .returned (.int .i64 z)) ∧ w' = w := by
  go_enter Try.func63, Try.ntmps63
  go_wp2
  all_goals go_ret
  all_goals exact ⟨⟨_, by decide, by decide, rfl⟩, rfl⟩

set_option maxHeartbeats 2000000 in
theorem op_any (pb k : Nat) (s : ByteArray) (bad : Bool) (w : World) (h : PS w pb s k bad) :
    Calls Try.prog 62 #[.pointer (some ⟨pb, 0, none⟩)] w fun e w' => (∃ z : Int, (z = 0 ∨ 8 ≤ z ∧ z ≤ 17 ∧ k + opLen z ≤ s.size) ∧ e = .returned (.int .i64 z)) ∧ PS w' pb s k bad ∧ Below pb w w' := by
  have H : Hid (PS w pb s k bad) := h
  have hlt := h.lt
  have HR : Hid (∀ q : Nat, 8 ≤ q → q ≤ 17 → ∃ t : ByteArray, t.size = opLen (q : Int) ∧ ∀ W, Below (w.alloc (.cells wordsA 9)).heap.size (w.alloc (.cells wordsA 9)) W → W.cell? ⟨w.heap.size, q, none⟩ = some (.string t)) := fun q h0 h1 => by
    refine ⟨_, tab_at q h0 h1, fun W hW => ?_⟩
    rw [hW.cell (p := ⟨w.heap.size, q, none⟩) (by simp), World.cell?_alloc_new]
    exact words_at q (by omega)
  have HA : Hid (∀ W, Below (w.alloc (.cells wordsA 9)).heap.size (w.alloc (.cells wordsA 9)) W → PS W pb s k bad ∧ Below pb w W) := fun W hW => ⟨(h.kept ((Below.refl _ _).alloc (Nat.le_refl _) _)).kept hW, ((Below.refl _ _).alloc (Nat.le_of_lt hlt) _).trans (hW.mono (by simp; omega))⟩
  obtain ⟨a, cap, L, c0, c1, c2, c3, cf, hk, hs, hl30, hg, ho⟩ := h
  clear ho hg hl30 c2 c3 cf c0 c1
  obtain ⟨W0, hW0⟩ : ∃ W, W = w.alloc (.cells wordsA 9) := ⟨_, rfl⟩
  rw [← hW0] at HR HA
  go_enter Try.func62, Try.ntmps62
  go_wp2_with (go_at_call 64; refine (words_any _).mono ?_; rw [← hW0]; clear hW0; rintro e w1 ⟨rfl, rfl⟩)
  go_loopw [4] (fun v wr => ∃ q : Nat, v = .int .i64 (q : Int) ∧ 7 ≤ q ∧ q ≤ 17 ∧ Hid (Below w1.heap.size w1 wr)) (fun v _ => (intOf v).toNat)
  case atStart => exact ⟨17, rfl, by decide, by decide, Below.refl _ _⟩
  case round =>
    obtain ⟨q, rfl, h7, h17, hb⟩ := hrel
    by_cases h8 : 8 ≤ q
    · obtain ⟨t, ht, hc⟩ := HR.out q h8 h17
      have hps := HA.out wr hb.out
      obtain ⟨⟨a, cap, L, c0, c1, _⟩, _⟩ := hps
      have ct := hc wr hb.out
      have ho : opLen (q : Int) ≤ 2 := by unfold opLen; split <;> omega
      have FIN : Hid (k + t.size ≤ s.size → k + opLen (q : Int) ≤ s.size) := fun h => by rw [← ht]; exact h
      have p1 : IntKind.i64.wrap ((s.size : Int) - (k : Int)) = (s.size : Int) - (k : Int) := by rw [IntKind.wrap_i64]; omega
      have p2 : IntKind.i64.wrap ((k : Int) + (t.size : Int)) = (k : Int) + (t.size : Int) := by rw [IntKind.wrap_i64]; omega
      rw [← ht] at ho
      clear hc ht HR
      by_cases h0 : (t.size : Int) ≤ (s.size : Int) - (k : Int)
      · have d0 : decide ((t.size : Int) ≤ (s.size : Int) - (k : Int)) = true := decide_eq_true h0
        have s1 : ∀ w, (Instr.slice 9 (.string s) (some (.int .i64 (k : Int))) (some (.int .i64 ((k : Int) + (t.size : Int)))) none).run Try.prog w = .ok (.string (s.extract k (k + t.size))) w := fun w => by
          have := run_slice_string (P := Try.prog) w 9 s .i64 .i64 (k : Int) ((k : Int) + (t.size : Int)) Try.underlying9 (by omega) (by omega) (by omega)
          rwa [show ((k : Int) + (t.size : Int)).toNat = k + t.size by omega, show ((k : Int)).toNat = k by omega] at this
        cases q1 : ((s.extract k (k + t.size)).toList == t.toList) with
        | true =>
          go_wp2_with fail
          go_quiet (fail)
          go_wp2
          go_ret
          exact ⟨⟨q, .inr ⟨by omega, by omega, FIN.out (by omega)⟩, rfl⟩, HA.out _ (below_drewN hb.out _)⟩
        | false =>
          go_wp2_with fail
          go_quiet (fail)
          go_wp2
          go_roundw
          case rel => exact ⟨q - 1, by congr 1; omega, by omega, by omega, below_drewN hb.out _⟩
          case measure => simp [intOf]; omega
      · have d0 : decide ((t.size : Int) ≤ (s.size : Int) - (k : Int)) = false := decide_eq_false h0
        go_wp2_with fail
        go_quiet (fail)
        go_wp2
        go_roundw
        case rel => exact ⟨q - 1, by congr 1; omega, by omega, by omega, below_drewN hb.out _⟩
        case measure => simp [intOf]; omega
    · have _hk := 0
      go_wp2_with fail
      go_ret
      exact ⟨⟨0, .inl rfl, rfl⟩, HA.out _ hb.out⟩
end Go.Proofs.Ytfgabgihdcokdaa.Cmpb
