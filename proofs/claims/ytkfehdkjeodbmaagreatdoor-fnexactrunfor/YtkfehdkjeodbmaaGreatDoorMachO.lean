/-
  Contracts of ours for both MachineOk, at every argument.
-/
import Derived.Test.YtkfehdkjeodbmaaGreatDoorMachT
import Derived.Test.YtkfehdkjeodbmaaGreatDoorCartS
import Derived.Test.YtkfehdkjeodbmaaGreatDoorCartX
namespace Go.Proofs.YtkfehdkjeodbmaaGreatDoor.MachO
set_option maxRecDepth 20000
open Go.ChangeShapes Go.WideShapes Go.ChangeAt Go.RowKit Go.Deep
set_option linter.unusedVariables false
open Signed (inB ret_int ret_bool isByte_any l1In_any)
open Carts CartK CartL CartN CartR CartX Outs Mach MachT

def byteL (L : List Int) : Bool := L.all fun n => inB n 0 255
theorem byteL_no {L : List Int} {k : Nat} (h : k < L.length) (hn : inB L[k] 0 255 = false) : byteL L = false := by
  unfold byteL
  rw [List.all_eq_false]
  exact ⟨L[k], List.getElem_mem h, by rw [hn]; decide⟩
theorem byteL_yes {L : List Int} (h : ∀ k (hk : k < L.length), inB L[k] 0 255 = true) : byteL L = true := by
  unfold byteL
  rw [List.all_eq_true]
  intro x hx
  obtain ⟨k, hk, rfl⟩ := List.getElem_of_mem hx
  exact h k hk
set_option maxHeartbeats 1000000 in
theorem allBytes_any (a : Option Addr) (cap : Nat) (L : List Int) (w : World) (hN : Row w a L) (hlen : L.length ≤ 1048576) :
    Calls Tryz.prog 57 #[.slice a L.length cap] w fun e w' => e = .returned (.bool (byteL L)) ∧ w' = w := by
  obtain ⟨len, hl⟩ : ∃ len, len = L.length := ⟨_, rfl⟩
  have HL : Hid (len = L.length) := hl
  obtain ⟨r, hr⟩ : ∃ r, r = byteL L := ⟨_, rfl⟩
  have HR : Hid (r = byteL L) := hr
  rw [← hl] at hlen ⊢
  rw [← hr]
  clear hl hr
  go_enter Tryz.func57, Tryz.ntmps57
  go_wp2
  go_loopw [4, 7] (fun n i wr => ∃ k : Nat, k ≤ len ∧ i = .int .i64 k ∧ wr = w ∧ Hid (∀ j (hj : j < L.length), j < k → inB L[j] 0 255 = true)) (fun _ i _ => len - (intOf i).toNat)
  case atStart => exact ⟨0, Nat.zero_le _, rfl, rfl, fun j _ h => absurd h (Nat.not_lt_zero _)⟩
  case round =>
    obtain ⟨k, hk, rfl, rfl, hall⟩ := hrel
    by_cases hlt : k < len
    · have hkL : k < L.length := by have := HL.out; omega
      rcases hN with hnil | ⟨b, off, rfl, hb, hc⟩
      · exfalso; rw [hnil] at hkL; exact absurd hkL (by simp)
      have c0 := hc k hkL
      clear hc
      have hno : Hid (inB L[k] 0 255 = false → r = false) := fun h => by rw [HR.out]; exact byteL_no hkL h
      have hgo : Hid (inB L[k] 0 255 = true → ∀ j (hj : j < L.length), j < k + 1 → inB L[j] 0 255 = true) := fun h j hj hjk => by
        by_cases e : j = k
        · subst e; exact h
        · exact hall.out j hj (by omega)
      generalize L[k] = n at c0 hno hgo
      have ci := fun w => isByte_any n w
      cases hb2 : inB n 0 255 with
      | false =>
        rw [hb2] at ci
        have er := hno.out hb2
        subst er
        clear hb2 hno hgo hall
        go_wp2_with (go_at_call 94; refine (ci _).mono ?_; rintro e w' ⟨rfl, rfl⟩)
        go_ret
        exact ⟨rfl, rfl⟩
      | true =>
        rw [hb2] at ci
        have HG : Hid (∀ j (hj : j < L.length), j < k + 1 → inB L[j] 0 255 = true) := hgo.out hb2
        clear hb2 hno hgo hall
        go_wp2_with (go_at_call 94; refine (ci _).mono ?_; rintro e w' ⟨rfl, rfl⟩)
        go_roundw
        case rel => exact ⟨k + 1, by omega, by go_num, trivial, HG.out⟩
        case measure => simp [intOf]; omega
    · have er : r = true := by
        rw [HR.out]
        exact byteL_yes fun j hj => hall.out j hj (by have := HL.out; omega)
      subst er
      clear hN hall
      go_wp2
      go_ret
      exact ⟨rfl, rfl⟩
/-- The registers and the rest of a right core. -/
def regL (ra rf rB rC rD rE rH rL : Int) : List Int := [ra, rf, rB, rC, rD, rE, rH, rL]
def cpuB (ra rf rB rC rD rE rH rL sp pc : Int) : Bool := byteL (regL ra rf rB rC rD rE rH rL) && rf % 16 == 0 && inB sp 0 65535 && inB pc 0 65535
theorem andNot_byte : ∀ n : Fin 256, (bits BinOp.andNot IntKind.i64 (n.val : Int) 240 == 0) = ((n.val : Int) % 16 == 0) := by decide +kernel
theorem regL_rf {ra rf rB rC rD rE rH rL : Int} (h : byteL (regL ra rf rB rC rD rE rH rL) = true) : 0 ≤ rf ∧ rf ≤ 255 := by
  unfold byteL regL at h
  rw [List.all_eq_true] at h
  exact of_decide_eq_true (h rf (by simp))
theorem reg_row (w : World) (ra rf rB rC rD rE rH rL : Int) (T : TypeId) : Row (w.alloc (.cells #[.int .i64 ra, .int .i64 rf, .int .i64 rB, .int .i64 rC, .int .i64 rD, .int .i64 rE, .int .i64 rH, .int .i64 rL] T)) (some ⟨w.heap.size, 0, none⟩) (regL ra rf rB rC rD rE rH rL) := by
  refine .inr ⟨w.heap.size, 0, rfl, by simp, fun i hi => ?_⟩
  rw [Nat.zero_add, World.cell?_alloc_new]
  have hi' : i < 8 := hi
  match i, hi' with
  | 0, _ => rfl
  | 1, _ => rfl
  | 2, _ => rfl
  | 3, _ => rfl
  | 4, _ => rfl
  | 5, _ => rfl
  | 6, _ => rfl
  | 7, _ => rfl
set_option maxHeartbeats 1000000 in
theorem cpuOk_any (ra rf rB rC rD rE rH rL sp pc : Int) (ime hal : Bool) (w : World) :
    Calls Tryz.prog 55 #[.agg #[.int .i64 ra, .int .i64 rf, .int .i64 rB, .int .i64 rC, .int .i64 rD, .int .i64 rE, .int .i64 rH, .int .i64 rL, .int .i64 sp, .int .i64 pc, .bool ime, .bool hal]] w fun e w' => e = .returned (.bool (cpuB ra rf rB rC rD rE rH rL sp pc)) ∧ ∃ o1 o2, w' = (w.alloc o1).alloc o2 := by
  have ca : ∀ (W : World) (p : Option Addr), Row W p (regL ra rf rB rC rD rE rH rL) → Calls Tryz.prog 57 #[.slice p 8 8] W fun e w' => e = .returned (.bool (byteL (regL ra rf rB rC rD rE rH rL))) ∧ w' = W := fun W p h => allBytes_any p 8 (regL ra rf rB rC rD rE rH rL) W h (by simp [regL])
  have HR : Hid (∀ (u : World) (o : Obj) (T : TypeId), Row ((u.alloc o).alloc (.cells #[.int .i64 ra, .int .i64 rf, .int .i64 rB, .int .i64 rC, .int .i64 rD, .int .i64 rE, .int .i64 rH, .int .i64 rL] T)) (some ⟨u.heap.size + 1, 0, none⟩) (regL ra rf rB rC rD rE rH rL)) := fun u o T => by
    have h := reg_row (u.alloc o) ra rf rB rC rD rE rH rL T
    simp only [World.size_alloc] at h
    exact h
  have cs := fun w => isWord_any sp w
  have cp := fun w => isWord_any pc w
  obtain ⟨b1, h1⟩ : ∃ b, byteL (regL ra rf rB rC rD rE rH rL) = b := ⟨_, rfl⟩
  obtain ⟨b2, h2⟩ : ∃ b, (rf % 16 == 0) = b := ⟨_, rfl⟩
  obtain ⟨b3, h3⟩ : ∃ b, inB sp 0 65535 = b := ⟨_, rfl⟩
  obtain ⟨b4, h4⟩ : ∃ b, inB pc 0 65535 = b := ⟨_, rfl⟩
  have ev : cpuB ra rf rB rC rD rE rH rL sp pc = (b1 && b2 && b3 && b4) := by unfold cpuB; rw [h1, h2, h3, h4]
  have e2 : b1 = true → (bits BinOp.andNot IntKind.i64 rf 240 == 0) = b2 := by
    rintro rfl
    obtain ⟨g0, g1⟩ := regL_rf h1
    have := andNot_byte ⟨rf.toNat, by omega⟩
    simp only [Int.toNat_of_nonneg g0] at this
    rw [this, h2]
  rw [ev]
  rw [h1] at ca
  rw [h3] at cs
  rw [h4] at cp
  clear ev h1 h2 h3 h4
  cases b1
  · clear e2
    go_enter Tryz.func55, Tryz.ntmps55
    go_wp2_with fail
    refine Calls.mono (ca _ _ ?_) ?_
    · exact HR.out _ _ _
    rintro e w' ⟨rfl, rfl⟩
    go_wp2
    go_ret
    exact ⟨rfl, _, _, rfl⟩
  · have e2 := e2 rfl
    cases b2 <;> cases b3 <;> cases b4
    all_goals
      go_enter Tryz.func55, Tryz.ntmps55
      go_wp2_with fail
      refine Calls.mono (ca _ _ ?_) ?_
      · exact HR.out _ _ _
      rintro e w' ⟨rfl, rfl⟩
      go_wp2_with first | (go_at_call_of 91 sp; refine (cs _).mono ?_; rintro e w' ⟨rfl, rfl⟩) | (go_at_call_of 91 pc; refine (cp _).mono ?_; rintro e w' ⟨rfl, rfl⟩)
      go_ret
      exact ⟨rfl, _, _, rfl⟩
end Go.Proofs.YtkfehdkjeodbmaaGreatDoor.MachO
