/-
  Contracts of ours for both CharsOk, at every row of pairs.
-/
import Derived.Test.YtjhacbkmoepffaaPairr
import Derived.Deep.QuietTactic
namespace Go.Proofs.Ytjhacbkmoepffaa.Chok
open Go.ChangeShapes Go.WideShapes Go.ChangeAt Go.RowKit Go.Deep
open Pairr (Pair Pairs)
open Signed (inB ret_bool)
set_option linter.unusedVariables false
set_option maxRecDepth 20000

theorem l4Byte_any (n : Int) (w : World) :
    Calls Try.prog 24 #[.int .i64 n] w fun e w' => e = .returned (.bool (inB n 0 255)) ∧ w' = w := by
  have c := fun w => Signed.l1In_any n 0 255 w
  generalize inB n 0 255 = b at c ⊢
  go_enter Try.func24, Try.ntmps24
  go_wp2_with (go_at_call 32; refine (c _).mono ?_; rintro e w' ⟨rfl, hw'⟩; have hw' := hw'.symm; subst hw')
  go_ret
  exact ⟨rfl, rfl⟩

def rise (a b : ByteArray) : Bool := Op.bytesLess a.toList b.toList
def OkAt (L : List Pair) (i : Nat) (h : i < L.length) : Prop :=
  1 ≤ L[i].1.size ∧ L[i].1.size ≤ 4 ∧ inB L[i].2 0 255 = true ∧ ∀ h0 : 0 < i, rise (L[i - 1]'(by omega)).1 L[i].1 = true
def Right (L : List Pair) : Prop := L.length ≤ 16 ∧ ∀ i h, OkAt L i h
open Classical in
noncomputable def okV (L : List Pair) : Bool := if Right L then true else false
theorem okV_no {L : List Pair} (h : ¬ Right L) : okV L = false := if_neg h
theorem okV_yes {L : List Pair} (h : Right L) : okV L = true := if_pos h
theorem right_of {L : List Pair} (h : okV L = true) : Right L := Classical.byContradiction fun hn => by rw [okV_no hn] at h; cases h
theorem drewN_below {B : Nat} {a b : World} (h : Below B a b) (n : Nat) : Below B a (b.drewN n) := ⟨h.os, h.tape, h.output, h.size, h.block⟩
theorem empty_yes {s : ByteArray} (h : s.size = 0) : s.toList.isEmpty = true := by
  rw [ByteArray.toList_eq, List.isEmpty_iff, ← List.length_eq_zero_iff, Array.length_toList]; exact h
theorem empty_no {s : ByteArray} (h : ¬ s.size = 0) : s.toList.isEmpty = false := by
  rw [Bool.eq_false_iff, Ne, ByteArray.toList_eq, List.isEmpty_iff, ← List.length_eq_zero_iff, Array.length_toList]; exact h

set_option maxHeartbeats 1000000 in
theorem specOk_any (a : Option Addr) (cap : Nat) (L : List Pair) (w : World) (hN : Pairs w a L) (hlen : L.length ≤ 1048576) :
    Calls Try.prog 13 #[.slice a L.length cap] w fun e w' => e = .returned (.bool (okV L)) ∧ Below w.heap.size w w' := by
  obtain ⟨len, hl⟩ : ∃ len, len = L.length := ⟨_, rfl⟩
  have HL : Hid (len = L.length) := hl
  rw [← hl] at hlen ⊢
  clear hl
  obtain ⟨R, hR⟩ : ∃ R, R = okV L := ⟨_, rfl⟩
  have HR : Hid (R = okV L) := hR
  rw [← hR]
  clear hR
  go_enter Try.func13, Try.ntmps13
  go_wp2
  go_loopw [3] (fun i wr => ∃ (k : Nat), k ≤ len ∧ i = .int .i64 k ∧ Hid (∀ i h, i < k → OkAt L i h) ∧ Hid (Below w.heap.size w wr)) (fun i _ => len - (intOf i).toNat)
  case atStart => exact ⟨0, Nat.zero_le _, rfl, fun i _ h => absurd h (Nat.not_lt_zero _), Below.refl _ _⟩
  case round =>
    obtain ⟨k, hk, rfl, hok, hbel⟩ := hrel
    by_cases hlt : k < len
    · have hkL : k < L.length := by have := HL.out; omega
      rcases hN with hnil | ⟨b, off, rfl, hb, hc⟩
      · exfalso; rw [hnil] at hkL; exact absurd hkL (by simp)
      have HC : Hid (∀ i (h : i < L.length), w.cell? ⟨b, off + i * 2, none⟩ = some (.string L[i].1)) := fun i h => (hc i h).1
      have HB : Hid (b < w.heap.size) := hb
      obtain ⟨c0, c1, hsz⟩ : wr.cell? ⟨b, off + k * 2, none⟩ = some (.string L[k].1) ∧ wr.cell? ⟨b, off + k * 2 + 1, none⟩ = some (.int .i64 L[k].2) ∧ L[k].1.size ≤ maxLen := by
        obtain ⟨d0, d1, d3⟩ := hc k hkL
        exact ⟨(hbel.out.cell (p := ⟨b, _, none⟩) hb).trans d0, (hbel.out.cell (p := ⟨b, _, none⟩) hb).trans d1, d3⟩
      unfold maxLen at hsz
      clear hc
      have NO : Hid (¬ OkAt L k hkL → R = false) := fun h => HR.out.trans (okV_no fun h' => h (h'.2 k hkL))
      have OK : Hid (OkAt L k hkL → ∀ i h, i < k + 1 → OkAt L i h) := fun h i hi hik => by
        rcases Nat.lt_or_ge i k with h' | h'
        · exact hok.out i hi h'
        · have e : i = k := by omega
          subst e; exact h
      have cb := fun w => l4Byte_any L[k].2 w
      have OI : Hid (OkAt L k hkL ↔ 1 ≤ L[k].1.size ∧ L[k].1.size ≤ 4 ∧ inB L[k].2 0 255 = true ∧ ∀ h0 : 0 < k, rise (L[k - 1]'(by omega)).1 L[k].1 = true) := Iff.rfl
      obtain ⟨pv, hpv, cp⟩ : ∃ pv : ByteArray, (∀ h0 : 0 < k, (L[k - 1]'(by omega)).1 = pv) ∧ (0 < k → wr.cell? ⟨b, off + (k - 1) * 2, none⟩ = some (.string pv)) := by
        by_cases h0 : 0 < k
        · exact ⟨_, fun _ => rfl, fun _ => (hbel.out.cell (p := ⟨b, _, none⟩) hb).trans (HC.out (k - 1) (by omega))⟩
        · exact ⟨⟨#[]⟩, fun h => absurd h h0, fun h => absurd h h0⟩
      have OJ : Hid (OkAt L k hkL ↔ 1 ≤ L[k].1.size ∧ L[k].1.size ≤ 4 ∧ inB L[k].2 0 255 = true ∧ (0 < k → rise pv L[k].1 = true)) := OI.out.trans ⟨fun h => ⟨h.1, h.2.1, h.2.2.1, fun h0 => by have := h.2.2.2 h0; rwa [hpv h0] at this⟩, fun h => ⟨h.1, h.2.1, h.2.2.1, fun h0 => by rw [hpv h0]; exact h.2.2.2 h0⟩⟩
      clear OI HC hpv
      generalize L[k].1 = nm at *
      generalize L[k].2 = bk at *
      have hr : rise pv nm = Op.bytesLess pv.toList nm.toList := rfl
      have RZ : Hid (¬ (1 ≤ nm.size ∧ nm.size ≤ 4 ∧ inB bk 0 255 = true ∧ (0 < k → rise pv nm = true)) → R = false) := fun h => NO.out fun h' => h (OJ.out.1 h')
      have bz : Hid (inB bk 0 255 = true ∨ inB bk 0 255 = false) := by cases inB bk 0 255 <;> simp [Hid]
      by_cases hk0 : 0 < k
      · have g0 : decide ((0 : Int) < (k : Int)) = true := decide_eq_true (by omega)
        obtain ⟨j, ej, jl, cp'⟩ : ∃ j : Nat, (k : Int) - 1 = (j : Int) ∧ (j : Int) < (len : Int) ∧ wr.cell? ⟨b, off + j * 2, none⟩ = some (.string pv) := ⟨k - 1, by omega, by omega, cp hk0⟩
        have j0 : (0 : Int) ≤ (j : Int) := by omega
        have ew : IntKind.i64.wrap (j : Int) = (j : Int) := by rw [IntKind.wrap_i64]; omega
        by_cases hrs : Op.bytesLess pv.toList nm.toList = true
        · have HRS : Hid (rise pv nm = true) := hrs
          by_cases z0 : nm.size = 0
          · have y0 : decide ((nm.size : Int) < 1) = true := decide_eq_true (by omega)
            have y1 : nm.toList.isEmpty = true := empty_yes z0
            have RI : Hid (R = false) := RZ.out fun h => by omega
            go_wp2_with fail
            go_quiet (first | (go_at_call 24; exact Calls.quiet_of_same (cb _)))
            go_wp2
            go_ret
            exact ⟨by rw [RI.out]; rfl, drewN_below hbel.out _⟩
          have y0 : decide ((nm.size : Int) < 1) = false := decide_eq_false (by omega)
          have y1 : nm.toList.isEmpty = false := empty_no z0
          by_cases z4 : 4 < nm.size
          · have y4 : decide (4 < (nm.size : Int)) = true := decide_eq_true (by omega)
            have RI : Hid (R = false) := RZ.out fun h => by omega
            go_wp2_with fail
            go_quiet (first | (go_at_call 24; exact Calls.quiet_of_same (cb _)))
            go_wp2
            go_ret
            exact ⟨by rw [RI.out]; rfl, drewN_below hbel.out _⟩
          have y4 : decide (4 < (nm.size : Int)) = false := decide_eq_false (by omega)
          rcases bz.out with hb1 | hb1
          · rw [hb1] at cb
            have RI : Hid (OkAt L k hkL) := OJ.out.2 ⟨by omega, by omega, hb1, fun _ => HRS.out⟩
            go_wp2_with fail
            go_quiet (first | (go_at_call 24; exact Calls.quiet_of_same (cb _)))
            go_wp2_with fail
            go_roundw
            case rel => exact ⟨k + 1, by omega, by go_num, OK.out RI.out, drewN_below hbel.out _⟩
            case measure => simp [intOf]; omega
          · rw [hb1] at cb
            have RI : Hid (R = false) := RZ.out fun h => by rw [hb1] at h; cases h.2.2.1
            go_wp2_with fail
            go_quiet (first | (go_at_call 24; exact Calls.quiet_of_same (cb _)))
            go_wp2
            go_ret
            exact ⟨by rw [RI.out]; rfl, drewN_below hbel.out _⟩
        · have hrs : Op.bytesLess pv.toList nm.toList = false := by simpa using hrs
          have HRS : Hid (rise pv nm = false) := hrs
          by_cases z0 : nm.size = 0
          · have y0 : decide ((nm.size : Int) < 1) = true := decide_eq_true (by omega)
            have y1 : nm.toList.isEmpty = true := empty_yes z0
            have RI : Hid (R = false) := RZ.out fun h => by omega
            go_wp2_with fail
            go_quiet (first | (go_at_call 24; exact Calls.quiet_of_same (cb _)))
            go_wp2
            go_ret
            exact ⟨by rw [RI.out]; rfl, drewN_below hbel.out _⟩
          have y0 : decide ((nm.size : Int) < 1) = false := decide_eq_false (by omega)
          have y1 : nm.toList.isEmpty = false := empty_no z0
          by_cases z4 : 4 < nm.size
          · have y4 : decide (4 < (nm.size : Int)) = true := decide_eq_true (by omega)
            have RI : Hid (R = false) := RZ.out fun h => by omega
            go_wp2_with fail
            go_quiet (first | (go_at_call 24; exact Calls.quiet_of_same (cb _)))
            go_wp2
            go_ret
            exact ⟨by rw [RI.out]; rfl, drewN_below hbel.out _⟩
          have y4 : decide (4 < (nm.size : Int)) = false := decide_eq_false (by omega)
          rcases bz.out with hb1 | hb1
          · rw [hb1] at cb
            have RI : Hid (R = false) := RZ.out fun h => by have := h.2.2.2 hk0; rw [HRS.out] at this; cases this
            go_wp2_with fail
            go_quiet (first | (go_at_call 24; exact Calls.quiet_of_same (cb _)))
            go_wp2
            go_ret
            exact ⟨by rw [RI.out]; rfl, drewN_below hbel.out _⟩
          · rw [hb1] at cb
            have RI : Hid (R = false) := RZ.out fun h => by rw [hb1] at h; cases h.2.2.1
            go_wp2_with fail
            go_quiet (first | (go_at_call 24; exact Calls.quiet_of_same (cb _)))
            go_wp2
            go_ret
            exact ⟨by rw [RI.out]; rfl, drewN_below hbel.out _⟩
      · have g0 : decide ((0 : Int) < (k : Int)) = false := decide_eq_false (by omega)
        by_cases z0 : nm.size = 0
        · have y0 : decide ((nm.size : Int) < 1) = true := decide_eq_true (by omega)
          have y1 : nm.toList.isEmpty = true := empty_yes z0
          have RI : Hid (R = false) := RZ.out fun h => by omega
          go_wp2_with fail
          go_quiet (first | (go_at_call 24; exact Calls.quiet_of_same (cb _)))
          go_wp2
          go_ret
          exact ⟨by rw [RI.out]; rfl, drewN_below hbel.out _⟩
        have y0 : decide ((nm.size : Int) < 1) = false := decide_eq_false (by omega)
        have y1 : nm.toList.isEmpty = false := empty_no z0
        by_cases z4 : 4 < nm.size
        · have y4 : decide (4 < (nm.size : Int)) = true := decide_eq_true (by omega)
          have RI : Hid (R = false) := RZ.out fun h => by omega
          go_wp2_with fail
          go_quiet (first | (go_at_call 24; exact Calls.quiet_of_same (cb _)))
          go_wp2
          go_ret
          exact ⟨by rw [RI.out]; rfl, drewN_below hbel.out _⟩
        have y4 : decide (4 < (nm.size : Int)) = false := decide_eq_false (by omega)
        rcases bz.out with hb1 | hb1
        · rw [hb1] at cb
          have RI : Hid (OkAt L k hkL) := OJ.out.2 ⟨by omega, by omega, hb1, fun h => absurd h hk0⟩
          go_wp2_with fail
          go_quiet (first | (go_at_call 24; exact Calls.quiet_of_same (cb _)))
          go_wp2_with fail
          go_roundw
          case rel => exact ⟨k + 1, by omega, by go_num, OK.out RI.out, drewN_below hbel.out _⟩
          case measure => simp [intOf]; omega
        · rw [hb1] at cb
          have RI : Hid (R = false) := RZ.out fun h => by rw [hb1] at h; cases h.2.2.1
          go_wp2_with fail
          go_quiet (first | (go_at_call 24; exact Calls.quiet_of_same (cb _)))
          go_wp2
          go_ret
          exact ⟨by rw [RI.out]; rfl, drewN_below hbel.out _⟩
    · have HE : Hid (R = decide ((len : Int) ≤ 16)) := by
        show R = _
        by_cases h : len ≤ 16
        · rw [HR.out, okV_yes ⟨by rw [← HL.out]; exact h, fun i h => hok.out i h (by have := HL.out; omega)⟩]
          exact (decide_eq_true (by omega)).symm
        · rw [HR.out, okV_no fun h' => h (by rw [HL.out]; exact h'.1)]
          exact (decide_eq_false (by omega)).symm
      clear hN
      go_wp2
      go_ret
      exact ⟨by rw [HE.out]; rfl, hbel.out⟩

set_option maxHeartbeats 1000000 in
theorem implOk_any (a : Option Addr) (cap : Nat) (L : List Pair) (w : World) (hN : Pairs w a L) (hlen : L.length ≤ 1048576) :
    Calls Try.prog 15 #[.slice a L.length cap] w fun e w' => e = .returned (.bool (okV L)) ∧ Below w.heap.size w w' := by
  obtain ⟨len, hl⟩ : ∃ len, len = L.length := ⟨_, rfl⟩
  have HL : Hid (len = L.length) := hl
  rw [← hl] at hlen ⊢
  clear hl
  obtain ⟨R, hR⟩ : ∃ R, R = okV L := ⟨_, rfl⟩
  have HR : Hid (R = okV L) := hR
  rw [← hR]
  clear hR
  by_cases h16 : 16 < len
  · have HZ : Hid (R = false) := HR.out.trans (okV_no fun h => by have := h.1; have := HL.out; omega)
    clear hN
    go_enter Try.func15, Try.ntmps15
    go_wp2
    go_ret
    exact ⟨by rw [HZ.out]; rfl, Below.refl _ _⟩
  go_enter Try.func15, Try.ntmps15
  go_wp2
  go_loopw [10] (fun i wr => ∃ (k : Nat), k ≤ len ∧ i = .int .i64 k ∧ Hid (∀ i h, i < k → OkAt L i h) ∧ Hid (Below w.heap.size w wr)) (fun i _ => len - (intOf i).toNat)
  case atStart => exact ⟨0, Nat.zero_le _, rfl, fun i _ h => absurd h (Nat.not_lt_zero _), Below.refl _ _⟩
  case round =>
    obtain ⟨k, hk, rfl, hok, hbel⟩ := hrel
    by_cases hlt : k < len
    · have hkL : k < L.length := by have := HL.out; omega
      rcases hN with hnil | ⟨b, off, rfl, hb, hc⟩
      · exfalso; rw [hnil] at hkL; exact absurd hkL (by simp)
      have HC : Hid (∀ i (h : i < L.length), w.cell? ⟨b, off + i * 2, none⟩ = some (.string L[i].1)) := fun i h => (hc i h).1
      have HB : Hid (b < w.heap.size) := hb
      obtain ⟨c0, c1, hsz⟩ : wr.cell? ⟨b, off + k * 2, none⟩ = some (.string L[k].1) ∧ wr.cell? ⟨b, off + k * 2 + 1, none⟩ = some (.int .i64 L[k].2) ∧ L[k].1.size ≤ maxLen := by
        obtain ⟨d0, d1, d3⟩ := hc k hkL
        exact ⟨(hbel.out.cell (p := ⟨b, _, none⟩) hb).trans d0, (hbel.out.cell (p := ⟨b, _, none⟩) hb).trans d1, d3⟩
      unfold maxLen at hsz
      clear hc
      have NO : Hid (¬ OkAt L k hkL → R = false) := fun h => HR.out.trans (okV_no fun h' => h (h'.2 k hkL))
      have OK : Hid (OkAt L k hkL → ∀ i h, i < k + 1 → OkAt L i h) := fun h i hi hik => by
        rcases Nat.lt_or_ge i k with h' | h'
        · exact hok.out i hi h'
        · have e : i = k := by omega
          subst e; exact h
      have cb := fun w => Signed.isByte_any L[k].2 w
      have OI : Hid (OkAt L k hkL ↔ 1 ≤ L[k].1.size ∧ L[k].1.size ≤ 4 ∧ inB L[k].2 0 255 = true ∧ ∀ h0 : 0 < k, rise (L[k - 1]'(by omega)).1 L[k].1 = true) := Iff.rfl
      obtain ⟨pv, hpv, cp⟩ : ∃ pv : ByteArray, (∀ h0 : 0 < k, (L[k - 1]'(by omega)).1 = pv) ∧ (0 < k → wr.cell? ⟨b, off + (k - 1) * 2, none⟩ = some (.string pv)) := by
        by_cases h0 : 0 < k
        · exact ⟨_, fun _ => rfl, fun _ => (hbel.out.cell (p := ⟨b, _, none⟩) hb).trans (HC.out (k - 1) (by omega))⟩
        · exact ⟨⟨#[]⟩, fun h => absurd h h0, fun h => absurd h h0⟩
      have OJ : Hid (OkAt L k hkL ↔ 1 ≤ L[k].1.size ∧ L[k].1.size ≤ 4 ∧ inB L[k].2 0 255 = true ∧ (0 < k → rise pv L[k].1 = true)) := OI.out.trans ⟨fun h => ⟨h.1, h.2.1, h.2.2.1, fun h0 => by have := h.2.2.2 h0; rwa [hpv h0] at this⟩, fun h => ⟨h.1, h.2.1, h.2.2.1, fun h0 => by rw [hpv h0]; exact h.2.2.2 h0⟩⟩
      clear OI HC hpv
      generalize L[k].1 = nm at *
      generalize L[k].2 = bk at *
      have hr : rise pv nm = Op.bytesLess pv.toList nm.toList := rfl
      have RZ : Hid (¬ (1 ≤ nm.size ∧ nm.size ≤ 4 ∧ inB bk 0 255 = true ∧ (0 < k → rise pv nm = true)) → R = false) := fun h => NO.out fun h' => h (OJ.out.1 h')
      have bz : Hid (inB bk 0 255 = true ∨ inB bk 0 255 = false) := by cases inB bk 0 255 <;> simp [Hid]
      by_cases hk0 : 0 < k
      · have g0 : decide ((0 : Int) < (k : Int)) = true := decide_eq_true (by omega)
        obtain ⟨j, ej, jl, cp'⟩ : ∃ j : Nat, (k : Int) - 1 = (j : Int) ∧ (j : Int) < (len : Int) ∧ ∀ o, (wr.alloc o).cell? ⟨b, off + j * 2, none⟩ = some (.string pv) := ⟨k - 1, by omega, by omega, fun o => (World.cell?_of_block (a := ⟨b, _, none⟩) (Below.heap_alloc _ _ _ (Nat.lt_of_lt_of_le HB.out hbel.out.size))).trans (cp hk0)⟩
        have j0 : (0 : Int) ≤ (j : Int) := by omega
        have ew : IntKind.i64.wrap (j : Int) = (j : Int) := by rw [IntKind.wrap_i64]; omega
        by_cases hrs : Op.bytesLess pv.toList nm.toList = true
        · have HRS : Hid (rise pv nm = true) := hrs
          by_cases z0 : nm.size = 0
          · have y0 : decide ((nm.size : Int) < 1) = true := decide_eq_true (by omega)
            have y1 : nm.toList.isEmpty = true := empty_yes z0
            have RI : Hid (R = false) := RZ.out fun h => by omega
            go_wp2_with fail
            go_quiet (first | (go_at_call 25; exact Calls.quiet_of_same (cb _)))
            go_wp2
            go_ret
            exact ⟨by rw [RI.out]; rfl, drewN_below (hbel.out.alloc hbel.out.size _) _⟩
          have y0 : decide ((nm.size : Int) < 1) = false := decide_eq_false (by omega)
          have y1 : nm.toList.isEmpty = false := empty_no z0
          by_cases z4 : 4 < nm.size
          · have y4 : decide (4 < (nm.size : Int)) = true := decide_eq_true (by omega)
            have RI : Hid (R = false) := RZ.out fun h => by omega
            go_wp2_with fail
            go_quiet (first | (go_at_call 25; exact Calls.quiet_of_same (cb _)))
            go_wp2
            go_ret
            exact ⟨by rw [RI.out]; rfl, drewN_below (hbel.out.alloc hbel.out.size _) _⟩
          have y4 : decide (4 < (nm.size : Int)) = false := decide_eq_false (by omega)
          rcases bz.out with hb1 | hb1
          · rw [hb1] at cb
            have RI : Hid (OkAt L k hkL) := OJ.out.2 ⟨by omega, by omega, hb1, fun _ => HRS.out⟩
            go_wp2_with fail
            go_quiet (first | (go_at_call 25; exact Calls.quiet_of_same (cb _)))
            go_wp2_with fail
            go_roundw
            case rel => exact ⟨k + 1, by omega, by go_num, OK.out RI.out, drewN_below (hbel.out.alloc hbel.out.size _) _⟩
            case measure => simp [intOf]; omega
          · rw [hb1] at cb
            have RI : Hid (R = false) := RZ.out fun h => by rw [hb1] at h; cases h.2.2.1
            go_wp2_with fail
            go_quiet (first | (go_at_call 25; exact Calls.quiet_of_same (cb _)))
            go_wp2
            go_ret
            exact ⟨by rw [RI.out]; rfl, drewN_below (hbel.out.alloc hbel.out.size _) _⟩
        · have hrs : Op.bytesLess pv.toList nm.toList = false := by simpa using hrs
          have HRS : Hid (rise pv nm = false) := hrs
          by_cases z0 : nm.size = 0
          · have y0 : decide ((nm.size : Int) < 1) = true := decide_eq_true (by omega)
            have y1 : nm.toList.isEmpty = true := empty_yes z0
            have RI : Hid (R = false) := RZ.out fun h => by omega
            go_wp2_with fail
            go_quiet (first | (go_at_call 25; exact Calls.quiet_of_same (cb _)))
            go_wp2
            go_ret
            exact ⟨by rw [RI.out]; rfl, drewN_below (hbel.out.alloc hbel.out.size _) _⟩
          have y0 : decide ((nm.size : Int) < 1) = false := decide_eq_false (by omega)
          have y1 : nm.toList.isEmpty = false := empty_no z0
          by_cases z4 : 4 < nm.size
          · have y4 : decide (4 < (nm.size : Int)) = true := decide_eq_true (by omega)
            have RI : Hid (R = false) := RZ.out fun h => by omega
            go_wp2_with fail
            go_quiet (first | (go_at_call 25; exact Calls.quiet_of_same (cb _)))
            go_wp2
            go_ret
            exact ⟨by rw [RI.out]; rfl, drewN_below (hbel.out.alloc hbel.out.size _) _⟩
          have y4 : decide (4 < (nm.size : Int)) = false := decide_eq_false (by omega)
          rcases bz.out with hb1 | hb1
          · rw [hb1] at cb
            have RI : Hid (R = false) := RZ.out fun h => by have := h.2.2.2 hk0; rw [HRS.out] at this; cases this
            go_wp2_with fail
            go_quiet (first | (go_at_call 25; exact Calls.quiet_of_same (cb _)))
            go_wp2
            go_ret
            exact ⟨by rw [RI.out]; rfl, drewN_below (hbel.out.alloc hbel.out.size _) _⟩
          · rw [hb1] at cb
            have RI : Hid (R = false) := RZ.out fun h => by rw [hb1] at h; cases h.2.2.1
            go_wp2_with fail
            go_quiet (first | (go_at_call 25; exact Calls.quiet_of_same (cb _)))
            go_wp2
            go_ret
            exact ⟨by rw [RI.out]; rfl, drewN_below (hbel.out.alloc hbel.out.size _) _⟩
      · have g0 : decide ((0 : Int) < (k : Int)) = false := decide_eq_false (by omega)
        by_cases z0 : nm.size = 0
        · have y0 : decide ((nm.size : Int) < 1) = true := decide_eq_true (by omega)
          have y1 : nm.toList.isEmpty = true := empty_yes z0
          have RI : Hid (R = false) := RZ.out fun h => by omega
          go_wp2_with fail
          go_quiet (first | (go_at_call 25; exact Calls.quiet_of_same (cb _)))
          go_wp2
          go_ret
          exact ⟨by rw [RI.out]; rfl, drewN_below (hbel.out.alloc hbel.out.size _) _⟩
        have y0 : decide ((nm.size : Int) < 1) = false := decide_eq_false (by omega)
        have y1 : nm.toList.isEmpty = false := empty_no z0
        by_cases z4 : 4 < nm.size
        · have y4 : decide (4 < (nm.size : Int)) = true := decide_eq_true (by omega)
          have RI : Hid (R = false) := RZ.out fun h => by omega
          go_wp2_with fail
          go_quiet (first | (go_at_call 25; exact Calls.quiet_of_same (cb _)))
          go_wp2
          go_ret
          exact ⟨by rw [RI.out]; rfl, drewN_below (hbel.out.alloc hbel.out.size _) _⟩
        have y4 : decide (4 < (nm.size : Int)) = false := decide_eq_false (by omega)
        rcases bz.out with hb1 | hb1
        · rw [hb1] at cb
          have RI : Hid (OkAt L k hkL) := OJ.out.2 ⟨by omega, by omega, hb1, fun h => absurd h hk0⟩
          go_wp2_with fail
          go_quiet (first | (go_at_call 25; exact Calls.quiet_of_same (cb _)))
          go_wp2_with fail
          go_roundw
          case rel => exact ⟨k + 1, by omega, by go_num, OK.out RI.out, drewN_below (hbel.out.alloc hbel.out.size _) _⟩
          case measure => simp [intOf]; omega
        · rw [hb1] at cb
          have RI : Hid (R = false) := RZ.out fun h => by rw [hb1] at h; cases h.2.2.1
          go_wp2_with fail
          go_quiet (first | (go_at_call 25; exact Calls.quiet_of_same (cb _)))
          go_wp2
          go_ret
          exact ⟨by rw [RI.out]; rfl, drewN_below (hbel.out.alloc hbel.out.size _) _⟩
    · have HE : Hid (R = decide ((len : Int) ≤ 16)) := by
        show R = _
        by_cases h : len ≤ 16
        · rw [HR.out, okV_yes ⟨by rw [← HL.out]; exact h, fun i h => hok.out i h (by have := HL.out; omega)⟩]
          exact (decide_eq_true (by omega)).symm
        · rw [HR.out, okV_no fun h' => h (by rw [HL.out]; exact h'.1)]
          exact (decide_eq_false (by omega)).symm
      clear hN
      go_wp2
      go_ret
      exact ⟨by rw [HE.out, decide_eq_true (by omega : (len : Int) ≤ 16)]; rfl, hbel.out⟩
end Go.Proofs.Ytjhacbkmoepffaa.Chok
