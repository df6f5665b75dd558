/-
  The contract of ours for spec.CyclesOf.
-/
import Derived.Test.YtkfehdkjeodbmaaGreatDoorCycS
import Derived.Test.YtkfehdkjeodbmaaGreatDoorCycQ
namespace Go.Proofs.YtkfehdkjeodbmaaGreatDoor.CycO
open Go.ChangeShapes Go.WideShapes Go.ChangeAt Go.RowKit
open Signed (inB ret_int)
open CycD CycE CycS CycQ Cyc Leng Tmpl
set_option linter.unusedVariables false
set_option maxRecDepth 20000

set_option maxHeartbeats 2000000 in
theorem spec_top (code : Int) (t : Bool) (w : World) (y z : Int) (hx : code / 64 = 3) (hy : code / 8 % 8 = y) (hz : code % 8 = z) (h0 : 0 ≤ code) (h1 : code ≤ 255) (hl : Len code false) :
    Calls Tryz.prog 54 #[.int .i64 code, .bool false, .bool t] w fun e w' => e = .returned (.int .i64 (topC y z t)) ∧ Below w.heap.size w w' := by
  have hh : ¬ code = 118 := by omega
  have q118 : (code == 118) = false := by simpa using hh
  have c := fun w => cycles_any y z t w (by omega) (by omega) (by omega) (by omega)
  generalize topC y z t = T at c ⊢
  go_enter Tryz.func54, Tryz.ntmps54
  go_wp2_with fail
  refine (hl _).mono ?_
  rintro e w1 ⟨⟨n, rfl, hn⟩, b1⟩
  have hn' : (n == 0) = false := by simpa using hn
  have B1 : Hid (Below w.heap.size w w1) := b1
  clear b1 hl
  go_wp2_with fail
  simp only [hy, hz]
  refine (c _).mono ?_
  rintro e w2 ⟨rfl, b2⟩
  have B2 : Hid (Below w.heap.size w w2) := B1.out.trans (b2.mono B1.out.size)
  clear b2 B1
  go_wp2
  go_ret
  exact ⟨rfl, B2.out⟩
theorem spec_any (code : Int) (cb t : Bool) (w : World) (h0 : 0 ≤ code) (h1 : code ≤ 255) (hl : Len code cb) :
    Calls Tryz.prog 54 #[.int .i64 code, .bool cb, .bool t] w fun e w' => e = .returned (.int .i64 (cycV code cb t)) ∧ Below w.heap.size w w' := by
  unfold cycV
  cases cb with
  | true =>
    rw [if_pos rfl]
    unfold prefC
    by_cases hz : code % 8 = 6
    · rw [if_pos hz]
      by_cases hx : code / 64 = 1
      · rw [if_pos hx]; exact spec_cb3 code t w hz hx h0 h1 hl
      · rw [if_neg hx]; exact spec_cb4 code t w hz hx h0 h1 hl
    · rw [if_neg hz]; exact spec_cb2 code t w hz h0 h1 hl
  | false =>
    rw [if_neg (by decide)]
    by_cases hx : code / 64 = 0
    · rw [if_pos hx]
      have e : code / 8 % 8 * 8 + code % 8 = code := by omega
      have h := spec_low (code / 8 % 8) (code % 8) t w (by omega) (by omega) (by omega) (by omega) (by rw [e]; exact hl)
      rw [e] at h
      exact h
    rw [if_neg hx]
    by_cases h3 : code / 64 = 3
    · rw [if_pos h3]; exact spec_top code t w _ _ h3 rfl rfl h0 h1 hl
    rw [if_neg h3]
    by_cases h8 : code = 118
    · rw [if_pos h8]; exact spec_halt code t w h8 h0 h1 hl
    rw [if_neg h8]
    by_cases hz : code % 8 = 6
    · rw [if_pos hz]
      by_cases h2 : code / 64 = 1
      · exact spec_1z code t w h2 h8 hz h0 h1 hl
      · exact spec_2z code t w (by omega) hz h0 h1 hl
    rw [if_neg hz]
    by_cases h2 : code / 64 = 1
    · by_cases hy : code / 8 % 8 = 6
      · rw [if_pos ⟨h2, hy⟩]; exact spec_1y code t w h2 h8 hy h0 h1 hl
      · rw [if_neg (fun h => hy h.2)]; exact spec_1n code t w h2 hy hz h0 h1 hl
    · rw [if_neg (fun h => h2 h.1)]; exact spec_2n code t w (by omega) hz h0 h1 hl
end Go.Proofs.YtkfehdkjeodbmaaGreatDoor.CycO
