/-
  A contract of ours for impl.conditionMet.
-/
import Derived.Test.YtkfehdkjeodbmaaGreatDoorStpe
import Derived.Test.YtkfehdkjeodbmaaGreatDoorShelf
import Derived.Test.YtkfehdkjeodbmaaGreatDoorHolI
namespace Go.Proofs.YtkfehdkjeodbmaaGreatDoor.Stpg
open Go.ChangeShapes Go.WideShapes Go.ChangeAt Go.RowKit Go.Deep
set_option linter.unusedVariables false
set_option linter.unusedSimpArgs false
set_option maxRecDepth 20000
open Signed (inB sgn ret_int ret_bool)
open Reck ReckS ReckM ReckD TurnS
open Busw Busx Stpp Stpq Stpi Stpc Stpe
theorem has_all : ∀ k : Fin 256, decide (0 ≤ Lib.indexByte (shapes.getD (kd (k.val : Int)) ⟨#[]⟩).data.toList 67) = hasC (k.val : Int) false := by decide +kernel
theorem has_at (c : Int) (cb : Bool) (h0 : 0 ≤ c) (h1 : c ≤ 255) : decide (0 ≤ Lib.indexByte (Shape.shape c cb).data.toList 67) = hasC c cb := by
  cases cb with
  | false =>
    rw [shape_kd h0 h1]
    obtain ⟨k, rfl⟩ := fin_of h0 h1
    exact has_all k
  | true =>
    unfold Shape.shape
    rw [show inB c 0 255 = true from decide_eq_true ⟨h0, h1⟩, if_pos rfl]
    by_cases hx : c / 64 = 0
    · rw [Shape.shapeR_c0 hx]
      unfold hasC
      rw [Bool.not_true, Bool.false_and]
      decide +kernel
    · rw [Shape.shapeR_c1 hx]
      unfold hasC
      rw [Bool.not_true, Bool.false_and]
      decide +kernel
theorem flag_all : ∀ f : Fin 256, (bits .and .i64 (f.val : Int) 128 != 0) = decide ((f.val : Int) / 128 % 2 = 1) ∧ (bits .and .i64 (f.val : Int) 16 != 0) = decide ((f.val : Int) / 16 % 2 = 1) := by decide +kernel
theorem flag_at {f : Int} (h : 0 ≤ f ∧ f ≤ 255) : (bits .and .i64 f 128 != 0) = decide (f / 128 % 2 = 1) ∧ (bits .and .i64 f 16 != 0) = decide (f / 16 % 2 = 1) := by
  obtain ⟨k, rfl⟩ := fin_of h.1 h.2
  exact flag_all k
theorem ixc_0 (w : World) : (Instr.index 131 (.agg #[.int .i64 128, .int .i64 16]) (.int .i64 0)).run Tryz.prog w = .ok (.int .i64 128) w := by kernel_rfl
theorem ixc_1 (w : World) : (Instr.index 131 (.agg #[.int .i64 128, .int .i64 16]) (.int .i64 1)).run Tryz.prog w = .ok (.int .i64 16) w := by kernel_rfl
theorem dec_eq {a b : Int} (ha : a = 0 ∨ a = 1) (hb : b = 0 ∨ b = 1) : (decide (a = 1) == decide (b = 1)) = decide (a = b) := by
  rcases ha with rfl | rfl <;> rcases hb with rfl | rfl <;> decide
set_option maxHeartbeats 1000000 in
theorem met_no (c : Int) (cb : Bool) (imm f : Int) (w : World) (h0 : 0 ≤ c) (h1 : c ≤ 255) (hh : hasC c cb = false) :
    Calls Tryz.prog 59 #[.agg #[.int .i64 c, .bool cb, .int .i64 imm], .int .i64 f] w fun e w' => e = .returned (.bool (met c cb f)) ∧ Below w.heap.size w w' := by
  have e1 : met c cb f = true := by unfold met; rw [hh]; rfl
  rw [e1]
  have c1 := fun w => Shape.shapeOf_any c cb w
  have c2 := fun w => Tryz.strings_Contains_one (Shape.shape c cb) 67 w
  rw [has_at c cb h0 h1, hh] at c2
  generalize Shape.shape c cb = s at *
  clear h0 h1 hh e1
  go_enter Tryz.func59, Tryz.ntmps59
  go_wp2_with first | (go_at_call 64; refine (c1 _).mono ?_; rintro e w1 ⟨rfl, hb1⟩) | (go_at_call 97; refine (c2 _).mono ?_; rintro e w2 ⟨rfl, hw2⟩; have hw2 := hw2.symm; subst hw2)
  go_ret
  exact ⟨rfl, HolI.unbox hb1⟩
set_option maxHeartbeats 2000000 in
theorem met_yes (c : Int) (cb : Bool) (imm f k fl : Int) (w : World) (h0 : 0 ≤ c) (h1 : c ≤ 255) (hh : hasC c cb = true) (hf : 0 ≤ f ∧ f ≤ 255) (hk : c / 8 % 8 % 4 / 2 = k)
    (hix : ∀ w, (Instr.index 131 (.agg #[.int .i64 128, .int .i64 16]) (.int .i64 k)).run Tryz.prog w = .ok (.int .i64 fl) w) (hfl : (bits .and .i64 f fl != 0) = decide (f / fl % 2 = 1)) (hfe : fl = if 1 < c / 8 % 8 % 4 then 16 else 128) :
    Calls Tryz.prog 59 #[.agg #[.int .i64 c, .bool cb, .int .i64 imm], .int .i64 f] w fun e w' => e = .returned (.bool (met c cb f)) ∧ Below w.heap.size w w' := by
  have e1 : met c cb f = ((bits .and .i64 f fl != 0) == (decide (c / 8 % 8 % 2 = 1))) := by
    unfold met
    rw [hh, ← hfe, hfl, show c / 8 % 8 % 4 % 2 = c / 8 % 8 % 2 by omega, dec_eq (by omega) (by omega)]
    rfl
  rw [e1]
  have c1 := fun w => Shape.shapeOf_any c cb w
  have c2 := fun w => Tryz.strings_Contains_one (Shape.shape c cb) 67 w
  have c3 := fun w => Shape.partsOf_any c w h0 h1
  rw [has_at c cb h0 h1, hh] at c2
  generalize Shape.shape c cb = s at *
  obtain ⟨q, hq⟩ : ∃ q, q = c / 8 % 8 % 2 := ⟨_, rfl⟩
  obtain ⟨y, hy⟩ : ∃ y, y = c / 8 % 8 := ⟨_, rfl⟩
  rw [← hq] at c3 ⊢
  rw [← hy] at c3 hk
  have y0 : 0 ≤ y := by omega
  obtain ⟨r, hr⟩ : ∃ r, y.tmod 4 = r := ⟨_, rfl⟩
  have hr2 : r = y % 4 := by rw [← hr]; exact Int.tmod_eq_emod_of_nonneg y0
  have hr0 : 0 ≤ r := by omega
  have hd : r.tdiv 2 = k := by rw [Int.tdiv_eq_ediv_of_nonneg hr0, hr2]; exact hk
  have hw : IntKind.i64.wrap k = k := by rw [IntKind.wrap_i64]; omega
  obtain ⟨b, hb⟩ : ∃ b, (bits .and .i64 f fl != 0) = b := ⟨_, rfl⟩
  rw [hb]
  have hqq : (q == 1) = decide (q = 1) := by by_cases h : q = 1 <;> simp [h]
  generalize decide (q = 1) = dq at *
  generalize c / 64 = x0 at *
  generalize c % 8 = z0 at *
  generalize y / 2 = p0 at *
  clear h0 h1 hh e1 hfl hfe hk hf hq hy hr2
  go_enter Tryz.func59, Tryz.ntmps59
  go_wp2_with first | (go_at_call 64; refine (c1 _).mono ?_; rintro e w1 ⟨rfl, hb1⟩; have k0 := HolI.box hb1 0 _ rfl; have HB1 : Hid (Below w.heap.size w w1) := HolI.unbox hb1; clear hb1) | (go_at_call 97; refine (c2 _).mono ?_; rintro e w2 ⟨rfl, hw2⟩; have hw2 := hw2.symm; subst hw2) | (go_at_call 62; refine (c3 _).mono ?_; rintro e w3 ⟨rfl, hb3⟩; have HB3 : Hid (Below w.heap.size w w3) := HolI.after HB1.out hb3; clear hb3)
  go_ret
  exact ⟨rfl, CartL.grow HB3.out _⟩
theorem met_any (c : Int) (cb : Bool) (imm f : Int) (w : World) (h0 : 0 ≤ c) (h1 : c ≤ 255) (hf : 0 ≤ f ∧ f ≤ 255) :
    Calls Tryz.prog 59 #[.agg #[.int .i64 c, .bool cb, .int .i64 imm], .int .i64 f] w fun e w' => e = .returned (.bool (met c cb f)) ∧ Below w.heap.size w w' := by
  cases hh : hasC c cb with
  | false => exact met_no c cb imm f w h0 h1 hh
  | true =>
    by_cases hk : c / 8 % 8 % 4 / 2 = 0
    · exact met_yes c cb imm f 0 128 w h0 h1 hh hf hk ixc_0 (flag_at hf).1 (by rw [if_neg (by omega)])
    · exact met_yes c cb imm f 1 16 w h0 h1 hh hf (by omega) ixc_1 (flag_at hf).2 (by rw [if_pos (by omega)])
end Go.Proofs.YtkfehdkjeodbmaaGreatDoor.Stpg
