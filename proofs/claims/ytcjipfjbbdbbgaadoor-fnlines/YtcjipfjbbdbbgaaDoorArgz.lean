/-
  Contracts of ours for args in their form: impl.argsOk, spec.l7Plain, spec.l7Args; and what stands ahead of a sign and behind it: impl.parted, spec.l1Cut.
-/
import Derived.Test.YtcjipfjbbdbbgaaDoorFill
import Derived.WalkMore
import Derived.ScopeJumps
namespace Go.Proofs.YtcjipfjbbdbbgaaDoor.Argz
open Go.ChangeShapes Go.WideShapes Go.ChangeAt Go.RowKit Go.Deep
set_option linter.unusedVariables false
open Txts (Texts)
open Fill (numAt numAt_of)
open Names (ret_bool empty_yes empty_no)

def plainB (c : Int) : Bool := decide (32 ≤ c ∧ c ≤ 126 ∧ c ≠ 59)
def pairB (a b : Int) : Bool := decide (¬ (a = 32 ∧ (b = 32 ∨ b = 44)) ∧ ¬ (a = 44 ∧ b = 32))
def lastI (s : ByteArray) (k : Nat) : Int := if k = 0 then 44 else (numAt s (k - 1) : Int)
def stepB (s : ByteArray) (k : Nat) : Bool := plainB (numAt s k) && pairB (lastI s k) (numAt s k)
/-- Is a text right as args? -/
def okB (s : ByteArray) : Bool := decide ((∀ k, k < s.size → stepB s k = true) ∧ lastI s s.size ≠ 32)
theorem ok_no {s : ByteArray} {k : Nat} (h : k < s.size) (hs : stepB s k = false) : okB s = false := decide_eq_false (fun hh => by have := hh.1 k h; rw [hs] at this; cases this)
theorem lastI_succ (s : ByteArray) (k : Nat) : lastI s (k + 1) = (numAt s k : Int) := by unfold lastI; rw [if_neg (by omega)]; rfl
theorem step_of {s : ByteArray} {k : Nat} (h : k < s.size) (a : Int) (ha : lastI s k = a) : stepB s k = (plainB (s[k].toNat : Int) && pairB a (s[k].toNat : Int)) := by unfold stepB; rw [numAt_of h, ha]
theorem plain_no {c : Int} (h : ¬ (32 ≤ c ∧ c ≤ 126 ∧ c ≠ 59)) : plainB c = false := decide_eq_false h
theorem plain_yes {c : Int} (h : 32 ≤ c ∧ c ≤ 126 ∧ c ≠ 59) : plainB c = true := decide_eq_true h
theorem pair_no {a c : Int} (h : ¬ (¬ (a = 32 ∧ (c = 32 ∨ c = 44)) ∧ ¬ (a = 44 ∧ c = 32))) : pairB a c = false := decide_eq_false h
theorem pair_yes {a c : Int} (h : ¬ (a = 32 ∧ (c = 32 ∨ c = 44)) ∧ ¬ (a = 44 ∧ c = 32)) : pairB a c = true := decide_eq_true h

def JA (s : ByteArray) (w : World) (a' : Act) (w' : World) : Prop := w' = w ∧ okB s = false ∧ ∃ u0 u1 u2 u3 u4 u5 u6 u7 u8 u9 u10 u11 u12 u13 u14 u15 u16 u17 u18 u19 u20 u21 u22 u23 u24 u25 u26 u27 u28 u29 u30 u31 u32 u33 u34 u35 u36 u37 u38 u39 u40 u41 u42 u43 u44 u45 u46 : Value, a' = { tmps := #[u0, u1, u2, u3, u4, u5, u6, u7, u8, u9, u10, u11, u12, u13, u14, u15, u16, u17, u18, u19, u20, u21, u22, u23, u24, u25, u26, u27, u28, u29, u30, u31, u32, u33, u34, u35, u36, u37, u38, u39, u40, u41, u42, u43, u44, u45, u46], defers := [] }

set_option maxHeartbeats 1000000 in
theorem argsOk_any (s : ByteArray) (w : World) (hs : s.size ≤ 1048576) :
    Calls Tryd.prog 18 #[.string s] w fun e w' => e = .returned (.bool (okB s)) ∧ w' = w := by
  go_enter Tryd.func18, Tryd.ntmps18
  go_wp2
  refine wp_scope_jumps 0 (JA s w) (fun _ _ => 0) rfl ?_ (by
    rintro a' w' ⟨rfl, hn, u0, u1, u2, u3, u4, u5, u6, u7, u8, u9, u10, u11, u12, u13, u14, u15, u16, u17, u18, u19, u20, u21, u22, u23, u24, u25, u26, u27, u28, u29, u30, u31, u32, u33, u34, u35, u36, u37, u38, u39, u40, u41, u42, u43, u44, u45, u46, rfl⟩
    have HN := (show Hid _ from hn)
    clear hn
    go_wp2
    simp only [Exit.jump]
    go_ret
    exact ⟨ret_bool HN.out.symm, rfl⟩)
  go_wp2
  go_loop [3, 8] (fun la i => ∃ (k : Nat) (l : Int), k ≤ s.size ∧ i = .int .i64 k ∧ la = .int .u8 l ∧ Hid (lastI s k = l) ∧ Hid (∀ j, j < k → stepB s j = true)) (fun _ i => s.size - (intOf i).toNat)
  case atStart => exact ⟨0, 44, Nat.zero_le _, rfl, rfl, rfl, fun j h => absurd h (Nat.not_lt_zero _)⟩
  case round =>
    obtain ⟨k, l, hk, rfl, rfl, HLa, hall⟩ := hrel
    by_cases hlt : k < s.size
    · have hb := UInt8.toNat_lt s[k]
      by_cases h1 : (s[k].toNat : Int) < 32
      · have HN : Hid (okB s = false) := ok_no hlt (by rw [step_of hlt l HLa.out]; first | (rw [plain_no (by omega)]; rfl) | (rw [pair_no (by omega), Bool.and_false]))
        clear hall HLa
        go_wp2
        go_step3
        exact (show 0 = 0 ∧ JA s w _ _ from ⟨rfl, rfl, HN.out, _, _, _, _, _, _, _, _, _, _, _, _, _, _, _, _, _, _, _, _, _, _, _, _, _, _, _, _, _, _, _, _, _, _, _, _, _, _, _, _, _, _, _, _, _, _, _, rfl⟩)
      by_cases h2 : 126 < (s[k].toNat : Int)
      · have d2 : decide (126 < (s[k].toNat : Int)) = true := decide_eq_true h2
        have HN : Hid (okB s = false) := ok_no hlt (by rw [step_of hlt l HLa.out]; first | (rw [plain_no (by omega)]; rfl) | (rw [pair_no (by omega), Bool.and_false]))
        clear hall HLa
        go_wp2
        go_step3
        exact (show 0 = 0 ∧ JA s w _ _ from ⟨rfl, rfl, HN.out, _, _, _, _, _, _, _, _, _, _, _, _, _, _, _, _, _, _, _, _, _, _, _, _, _, _, _, _, _, _, _, _, _, _, _, _, _, _, _, _, _, _, _, _, _, _, _, rfl⟩)
      have d2 : decide (126 < (s[k].toNat : Int)) = false := decide_eq_false h2
      by_cases h3 : (s[k].toNat : Int) = 59
      · have HN : Hid (okB s = false) := ok_no hlt (by rw [step_of hlt l HLa.out]; first | (rw [plain_no (by omega)]; rfl) | (rw [pair_no (by omega), Bool.and_false]))
        clear hall HLa
        go_wp2
        go_step3
        exact (show 0 = 0 ∧ JA s w _ _ from ⟨rfl, rfl, HN.out, _, _, _, _, _, _, _, _, _, _, _, _, _, _, _, _, _, _, _, _, _, _, _, _, _, _, _, _, _, _, _, _, _, _, _, _, _, _, _, _, _, _, _, _, _, _, _, rfl⟩)
      by_cases h4 : (s[k].toNat : Int) = 32
      · by_cases h5 : l = 32
        · have HN : Hid (okB s = false) := ok_no hlt (by rw [step_of hlt l HLa.out]; first | (rw [plain_no (by omega)]; rfl) | (rw [pair_no (by omega), Bool.and_false]))
          clear hall HLa
          go_wp2
          go_step3
          exact (show 0 = 0 ∧ JA s w _ _ from ⟨rfl, rfl, HN.out, _, _, _, _, _, _, _, _, _, _, _, _, _, _, _, _, _, _, _, _, _, _, _, _, _, _, _, _, _, _, _, _, _, _, _, _, _, _, _, _, _, _, _, _, _, _, _, rfl⟩)
        by_cases h6 : l = 44
        · have HN : Hid (okB s = false) := ok_no hlt (by rw [step_of hlt l HLa.out]; first | (rw [plain_no (by omega)]; rfl) | (rw [pair_no (by omega), Bool.and_false]))
          clear hall HLa
          go_wp2
          go_step3
          exact (show 0 = 0 ∧ JA s w _ _ from ⟨rfl, rfl, HN.out, _, _, _, _, _, _, _, _, _, _, _, _, _, _, _, _, _, _, _, _, _, _, _, _, _, _, _, _, _, _, _, _, _, _, _, _, _, _, _, _, _, _, _, _, _, _, _, rfl⟩)
        · have b5 : (l == 32) = false := by simpa using h5
          have b6 : (l == 44) = false := by simpa using h6
          have HS : Hid (∀ j, j < k + 1 → stepB s j = true) := fun j hj => by
            by_cases e : j = k
            · subst e; rw [step_of hlt l HLa.out, plain_yes (by omega), pair_yes (by omega)]; rfl
            · exact hall.out j (by omega)
          have HN : Hid (lastI s (k + 1) = (s[k].toNat : Int)) := (show lastI s (k + 1) = (s[k].toNat : Int) from by rw [lastI_succ, numAt_of hlt])
          clear hall HLa
          go_wp2
          go_round
          case rel => first | exact ⟨k + 1, (s[k].toNat : Int), by omega, by go_num, rfl, HN.out, HS.out⟩ | exact ⟨k + 1, _, by omega, by go_num, rfl, HN.out.trans h4, HS.out⟩ | exact ⟨k + 1, _, by omega, by go_num, rfl, HN.out.trans h7, HS.out⟩
          case measure => simp [intOf]; omega
      by_cases h7 : (s[k].toNat : Int) = 44
      · by_cases h5 : l = 32
        · have HN : Hid (okB s = false) := ok_no hlt (by rw [step_of hlt l HLa.out]; first | (rw [plain_no (by omega)]; rfl) | (rw [pair_no (by omega), Bool.and_false]))
          clear hall HLa
          go_wp2
          go_step3
          exact (show 0 = 0 ∧ JA s w _ _ from ⟨rfl, rfl, HN.out, _, _, _, _, _, _, _, _, _, _, _, _, _, _, _, _, _, _, _, _, _, _, _, _, _, _, _, _, _, _, _, _, _, _, _, _, _, _, _, _, _, _, _, _, _, _, _, rfl⟩)
        · have b5 : (l == 32) = false := by simpa using h5
          have HS : Hid (∀ j, j < k + 1 → stepB s j = true) := fun j hj => by
            by_cases e : j = k
            · subst e; rw [step_of hlt l HLa.out, plain_yes (by omega), pair_yes (by omega)]; rfl
            · exact hall.out j (by omega)
          have HN : Hid (lastI s (k + 1) = (s[k].toNat : Int)) := (show lastI s (k + 1) = (s[k].toNat : Int) from by rw [lastI_succ, numAt_of hlt])
          clear hall HLa
          go_wp2
          go_round
          case rel => first | exact ⟨k + 1, (s[k].toNat : Int), by omega, by go_num, rfl, HN.out, HS.out⟩ | exact ⟨k + 1, _, by omega, by go_num, rfl, HN.out.trans h4, HS.out⟩ | exact ⟨k + 1, _, by omega, by go_num, rfl, HN.out.trans h7, HS.out⟩
          case measure => simp [intOf]; omega
      · have HS : Hid (∀ j, j < k + 1 → stepB s j = true) := fun j hj => by
          by_cases e : j = k
          · subst e; rw [step_of hlt l HLa.out, plain_yes (by omega), pair_yes (by omega)]; rfl
          · exact hall.out j (by omega)
        have HN : Hid (lastI s (k + 1) = (s[k].toNat : Int)) := (show lastI s (k + 1) = (s[k].toNat : Int) from by rw [lastI_succ, numAt_of hlt])
        clear hall HLa
        go_wp2
        go_round
        case rel => first | exact ⟨k + 1, (s[k].toNat : Int), by omega, by go_num, rfl, HN.out, HS.out⟩ | exact ⟨k + 1, _, by omega, by go_num, rfl, HN.out.trans h4, HS.out⟩ | exact ⟨k + 1, _, by omega, by go_num, rfl, HN.out.trans h7, HS.out⟩
        case measure => simp [intOf]; omega
    · have e : k = s.size := by omega
      subst e
      by_cases h5 : l = 32
      · have HN : Hid (okB s = false) := decide_eq_false (fun h => h.2 (by rw [HLa.out, h5]))
        clear hall HLa
        go_wp2
        simp only [Exit.jump]
        go_ret
        exact ⟨ret_bool HN.out.symm, rfl⟩
      · have HN : Hid (okB s = true) := decide_eq_true ⟨hall.out, by rw [HLa.out]; exact h5⟩
        clear hall HLa
        go_wp2
        simp only [Exit.jump]
        go_ret
        exact ⟨ret_bool (by rw [HN.out]; simpa using h5), rfl⟩

/-- Bytes that may stand in args, none at the ends blank. -/
def plB (s : ByteArray) : Bool := decide ((∀ k, k < s.size → plainB (numAt s k) = true) ∧ (s.size = 0 ∨ (numAt s 0 ≠ 32 ∧ numAt s (s.size - 1) ≠ 32)))
theorem pl_no {s : ByteArray} {k : Nat} (h : k < s.size) (hs : ¬ (32 ≤ (s[k].toNat : Int) ∧ (s[k].toNat : Int) ≤ 126 ∧ (s[k].toNat : Int) ≠ 59)) : plB s = false := decide_eq_false (fun hh => by have := hh.1 k h; rw [numAt_of h, plain_no hs] at this; cases this)

set_option maxHeartbeats 1000000 in
theorem l7Plain_any (s : ByteArray) (w : World) (hs : s.size ≤ 1048576) :
    Calls Tryd.prog 38 #[.string s] w fun e w' => e = .returned (.bool (plB s)) ∧ w' = w := by
  go_enter Tryd.func38, Tryd.ntmps38
  go_wp2
  go_loop [3] (fun i => ∃ (k : Nat), k ≤ s.size ∧ i = .int .i64 k ∧ Hid (∀ j, j < k → plainB (numAt s j) = true)) (fun i => s.size - (intOf i).toNat)
  case atStart => exact ⟨0, Nat.zero_le _, rfl, fun j h => absurd h (Nat.not_lt_zero _)⟩
  case round =>
    obtain ⟨k, hk, rfl, hall⟩ := hrel
    by_cases hlt : k < s.size
    · have hb := UInt8.toNat_lt s[k]
      by_cases h1 : (s[k].toNat : Int) < 32
      · have hn := pl_no hlt (by omega)
        clear hall
        go_wp2
        go_ret
        first | exact ⟨rfl, rfl⟩ | exact ⟨ret_bool hn.symm, rfl⟩
      by_cases h2 : 126 < (s[k].toNat : Int)
      · have hn := pl_no hlt (by omega)
        have d2 : decide (126 < (s[k].toNat : Int)) = true := decide_eq_true h2
        clear hall
        go_wp2
        go_ret
        first | exact ⟨rfl, rfl⟩ | exact ⟨ret_bool hn.symm, rfl⟩
      have d2 : decide (126 < (s[k].toNat : Int)) = false := decide_eq_false h2
      by_cases h3 : (s[k].toNat : Int) = 59
      · have hn := pl_no hlt (by omega)
        clear hall
        go_wp2
        go_ret
        first | exact ⟨rfl, rfl⟩ | exact ⟨ret_bool hn.symm, rfl⟩
      have b3 : ((s[k].toNat : Int) == 59) = false := by simpa using h3
      have HS : Hid (∀ j, j < k + 1 → plainB (numAt s j) = true) := fun j hj => by
        by_cases e : j = k
        · subst e; rw [numAt_of hlt]; exact plain_yes (by omega)
        · exact hall.out j (by omega)
      clear hall
      go_wp2
      go_round
      case rel => exact ⟨k + 1, by omega, by go_num, HS.out⟩
      case measure => simp [intOf]; omega
    · have HE : Hid (plB s = decide (s.size = 0 ∨ (numAt s 0 ≠ 32 ∧ numAt s (s.size - 1) ≠ 32))) := by
        unfold plB
        rw [Bool.eq_iff_iff, decide_eq_true_iff, decide_eq_true_iff]
        exact ⟨fun h => h.2, fun h => ⟨fun j hj => hall.out j (by omega), h⟩⟩
      clear hall
      by_cases h0 : s.size = 0
      · have he := empty_yes h0
        have hn : plB s = true := by rw [HE.out]; exact decide_eq_true (.inl h0)
        clear HE
        go_wp2
        go_ret
        first | exact ⟨rfl, rfl⟩ | exact ⟨ret_bool hn.symm, rfl⟩
      have he := empty_no h0
      have hp : 0 < s.size := by omega
      have hq : s.size - 1 < s.size := by omega
      have hw1 : ((s.size : Int) - 1).toNat = s.size - 1 := by omega
      have n0 := numAt_of hp
      have n1 := numAt_of hq
      have i0 : (0 : Int) ≤ (s.size : Int) - 1 := by omega
      have i1 : (s.size : Int) - 1 < (s.size : Int) := by omega
      by_cases h1 : (s[0].toNat : Int) = 32
      · have hn : plB s = false := by rw [HE.out]; exact decide_eq_false (by omega)
        clear HE n0 n1
        go_wp2
        go_ret
        first | exact ⟨rfl, rfl⟩ | exact ⟨ret_bool hn.symm, rfl⟩
      by_cases h2 : (s[s.size - 1].toNat : Int) = 32
      · have hn : plB s = false := by rw [HE.out]; exact decide_eq_false (by omega)
        clear HE n0 n1
        go_wp2
        all_goals go_ret
        all_goals first | exact ⟨rfl, rfl⟩ | exact ⟨ret_bool hn.symm, rfl⟩
      · have hn : plB s = true := by rw [HE.out]; exact decide_eq_true (by omega)
        clear HE n0 n1
        go_wp2
        all_goals go_ret
        all_goals first | exact ⟨rfl, rfl⟩ | exact ⟨ret_bool (by rw [hn, bne_iff_ne.mpr h1, bne_iff_ne.mpr h2]; rfl), rfl⟩ | exact ⟨ret_bool hn.symm, rfl⟩

theorem ok_of_pl {s : ByteArray} (h : ∀ j, j + 1 < s.size → pairB (numAt s j) (numAt s (j + 1)) = true) : plB s = okB s := by
  unfold plB okB
  rw [Bool.eq_iff_iff, decide_eq_true_iff, decide_eq_true_iff]
  constructor
  · rintro ⟨h1, h2⟩
    refine ⟨fun k hk => ?_, ?_⟩
    · unfold stepB
      rw [h1 k hk, Bool.true_and]
      unfold lastI
      by_cases e : k = 0
      · subst e; rw [if_pos rfl]; exact pair_yes (by omega)
      · rw [if_neg e]
        have := h (k - 1) (by omega)
        rw [show k - 1 + 1 = k by omega] at this
        exact this
    · unfold lastI
      by_cases e : s.size = 0
      · rw [if_pos e]; decide
      · rw [if_neg e]; omega
  · rintro ⟨h1, h2⟩
    refine ⟨fun k hk => ?_, ?_⟩
    · have := h1 k hk
      unfold stepB at this
      rw [Bool.and_eq_true] at this
      exact this.1
    · by_cases e : s.size = 0
      · exact .inl e
      · refine .inr ⟨?_, ?_⟩
        · have := h1 0 (by omega)
          unfold stepB at this
          rw [Bool.and_eq_true] at this
          have h3 := of_decide_eq_true (show decide _ = true from this.2)
          have h4 : lastI s 0 = 44 := rfl
          rw [h4] at h3
          omega
        · unfold lastI at h2
          rw [if_neg e] at h2
          omega
theorem ok_no_pair {s : ByteArray} {j : Nat} (h : j + 1 < s.size) (hp : ¬ (¬ ((s[j].toNat : Int) = 32 ∧ ((s[j + 1].toNat : Int) = 32 ∨ (s[j + 1].toNat : Int) = 44)) ∧ ¬ ((s[j].toNat : Int) = 44 ∧ (s[j + 1].toNat : Int) = 32))) : okB s = false :=
  ok_no h (by unfold stepB; rw [lastI_succ, numAt_of h, numAt_of (Nat.lt_of_succ_lt h), pair_no hp, Bool.and_false])

set_option maxHeartbeats 1000000 in
theorem l7Args_any (s : ByteArray) (w : World) (hs : s.size ≤ 1048576) :
    Calls Tryd.prog 21 #[.string s] w fun e w' => e = .returned (.bool (okB s)) ∧ w' = w := by
  have cp := fun w => l7Plain_any s w hs
  go_enter Tryd.func21, Tryd.ntmps21
  go_wp2
  go_loop [3] (fun i => ∃ (k : Nat), k ≤ s.size ∧ i = .int .i64 k ∧ Hid (∀ j, j < k → j + 1 < s.size → pairB (numAt s j) (numAt s (j + 1)) = true)) (fun i => s.size - (intOf i).toNat)
  case atStart => exact ⟨0, Nat.zero_le _, rfl, fun j h => absurd h (Nat.not_lt_zero _)⟩
  case round =>
    obtain ⟨k, hk, rfl, hall⟩ := hrel
    by_cases hlt : k + 1 < s.size
    · have hlt0 : k < s.size := by omega
      have hi : (k : Int) + 1 < (s.size : Int) := by omega
      have hb := UInt8.toNat_lt s[k]
      have hb1 := UInt8.toNat_lt s[k + 1]
      have HS : Hid ((¬ ((s[k].toNat : Int) = 32 ∧ ((s[k + 1].toNat : Int) = 32 ∨ (s[k + 1].toNat : Int) = 44)) ∧ ¬ ((s[k].toNat : Int) = 44 ∧ (s[k + 1].toNat : Int) = 32)) → ∀ j, j < k + 1 → j + 1 < s.size → pairB (numAt s j) (numAt s (j + 1)) = true) := fun hp j hj hj1 => by
        by_cases e : j = k
        · subst e; rw [numAt_of hlt, numAt_of hlt0]; exact pair_yes hp
        · exact hall.out j (by omega) hj1
      clear hall cp
      by_cases h1 : (s[k].toNat : Int) = 32
      · by_cases h2 : (s[k + 1].toNat : Int) = 32
        · have hn := ok_no_pair hlt (by omega)
          clear HS
          go_wp2
          go_ret
          first | exact ⟨rfl, rfl⟩ | exact ⟨ret_bool hn.symm, rfl⟩
        by_cases h3 : (s[k + 1].toNat : Int) = 44
        · have hn := ok_no_pair hlt (by omega)
          clear HS
          go_wp2
          go_ret
          first | exact ⟨rfl, rfl⟩ | exact ⟨ret_bool hn.symm, rfl⟩
        · have HR := (show Hid _ from HS.out (by omega))
          have b3 : ((s[k + 1].toNat : Int) == 44) = false := by simpa using h3
          clear HS
          go_wp2
          go_round
          case rel => exact ⟨k + 1, by omega, by go_num, HR.out⟩
          case measure => simp [intOf]; omega
      by_cases h4 : (s[k].toNat : Int) = 44
      · by_cases h2 : (s[k + 1].toNat : Int) = 32
        · have hn := ok_no_pair hlt (by omega)
          clear HS
          go_wp2
          go_ret
          first | exact ⟨rfl, rfl⟩ | exact ⟨ret_bool hn.symm, rfl⟩
        · have HR := (show Hid _ from HS.out (by omega))
          have b2 : ((s[k + 1].toNat : Int) == 32) = false := by simpa using h2
          clear HS
          go_wp2
          go_round
          case rel => exact ⟨k + 1, by omega, by go_num, HR.out⟩
          case measure => simp [intOf]; omega
      · have HR := (show Hid _ from HS.out (by omega))
        have b4 : ((s[k].toNat : Int) == 44) = false := by simpa using h4
        clear HS
        go_wp2
        go_round
        case rel => exact ⟨k + 1, by omega, by go_num, HR.out⟩
        case measure => simp [intOf]; omega
    · have hi : ¬ (k : Int) + 1 < (s.size : Int) := by omega
      have e := ok_of_pl (s := s) (fun j hj => hall.out j (by omega) hj)
      rw [e] at cp
      clear hall e
      go_wp2_with (go_at_call 38; refine (cp _).mono ?_; rintro e w' ⟨rfl, rfl⟩)
      go_ret
      exact ⟨rfl, rfl⟩
end Go.Proofs.YtcjipfjbbdbbgaaDoor.Argz
