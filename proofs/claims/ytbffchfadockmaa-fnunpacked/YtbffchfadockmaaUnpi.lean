/-
  Contracts of ours for impl.packedAhead, impl.packedRuns and its iterator, at every text.
-/
import Derived.Test.YtbffchfadockmaaPakj
import Derived.Test.YtbffchfadockmaaUnps
namespace Go.Proofs.Ytbffchfadockmaa.Unpi
open Go.ChangeShapes Go.WideShapes Go.ChangeAt Go.RowKit Go.Deep Go.Shelf
open Pakp Paks Paki Unps
open Pakj (empty_yes empty_no grow_drewN vsize ext_self ext_ext)
set_option linter.unusedVariables false
set_option maxRecDepth 20000
attribute [local go_sem] Oper.semAt_some

/-- What is told of the next run. -/
def Told (t : ByteArray) (e : Ending) : Prop := ∃ (d : ByteArray) (n : Nat) (t' : ByteArray), e = .returned (.tuple #[.string d, .int .i64 n, .string t']) ∧ d.data.toList = (Pakp.ahead (D t 0)).1 ∧ n = (Pakp.ahead (D t 0)).2.1 ∧ D t' 0 = (Pakp.ahead (D t 0)).2.2 ∧ d.size ≤ 128 ∧ n ≤ 128
theorem D_zero (t : ByteArray) : D t 0 = t.data.toList := rfl
theorem told_none {t : ByteArray} (h : (Pakp.ahead (D t 0)) = ([], 0, [])) : Told t (.returned (.tuple #[.string ⟨#[]⟩, .int .i64 0, .string ⟨#[]⟩])) := ⟨⟨#[]⟩, 0, ⟨#[]⟩, rfl, by rw [h], by rw [h], by rw [h]; rfl, by decide, by decide⟩
theorem none_128 {t : ByteArray} (h : 0 < t.size) (hc : t[0].toNat = 128) : Pakp.ahead (D t 0) = ([], 0, []) := by
  rw [ahead_D h]; unfold aheadC; rw [if_pos hc]
theorem none_short {t : ByteArray} (h : 0 < t.size) (hc : t[0].toNat < 128) (hl : t.size < t[0].toNat + 2) : Pakp.ahead (D t 0) = ([], 0, []) := by
  rw [ahead_D h]; unfold aheadC; rw [if_neg (by omega), if_neg (by omega), if_pos (by rw [D_len]; omega)]
theorem none_great {t : ByteArray} (h : 0 < t.size) (hc : 128 < t[0].toNat) (hl : t.size < 2) : Pakp.ahead (D t 0) = ([], 0, []) := by
  rw [ahead_D h]; unfold aheadC; rw [if_neg (by omega), if_pos hc, if_pos (by rw [D_len]; omega)]
theorem told_some {t : ByteArray} {k n : Nat} (h : 0 < t.size) (hk : 1 + k ≤ t.size) (hk8 : k ≤ 128) (hn : n ≤ 128) (ha : Pakp.ahead (D t 0) = ((D t 1).take k, n, (D t 1).drop k)) (u : ByteArray) (hu : u = t.extract 1 t.size) :
    Told t (.returned (.tuple #[.string (u.extract 0 k), .int .i64 n, .string (u.extract k u.size)])) := by
  have z : (u.extract 0 k).size = k := by rw [ByteArray.size_extract, hu, ByteArray.size_extract]; omega
  refine ⟨_, n, _, rfl, ?_, by rw [ha], ?_, by omega, hn⟩
  · have := ext_list u 0 k (by rw [hu, ByteArray.size_extract]; omega)
    rw [Nat.zero_add] at this
    rw [ha, this, hu, D_ext]
  · rw [ha, ext_ext t 1 k u hu, D_ext, D_drop]
theorem some_small {t : ByteArray} (h : 0 < t.size) (hc : t[0].toNat < 128) (hl : ¬ t.size < t[0].toNat + 2) : Pakp.ahead (D t 0) = ((D t 1).take (t[0].toNat + 1), 1, (D t 1).drop (t[0].toNat + 1)) := by
  rw [ahead_D h]; unfold aheadC; rw [if_neg (by omega), if_neg (by omega), if_neg (by rw [D_len]; omega)]
theorem some_great {t : ByteArray} (h : 0 < t.size) (hc : 128 < t[0].toNat) (hl : ¬ t.size < 2) : Pakp.ahead (D t 0) = ((D t 1).take 1, 257 - t[0].toNat, (D t 1).drop 1) := by
  rw [ahead_D h]; unfold aheadC; rw [if_neg (by omega), if_pos hc, if_neg (by rw [D_len]; omega)]
set_option maxHeartbeats 1000000 in
theorem ahead_any (t : ByteArray) (w : World) (h : 0 < t.size) (hs : t.size ≤ 1048576) :
    Calls Try.prog 26 #[.string t] w fun e w' => Told t e ∧ ∃ n, w' = w.drewN n := by
  obtain ⟨u, hu⟩ : ∃ u, t.extract 1 t.size = u := ⟨_, rfl⟩
  have zu : u.size = t.size - 1 := by rw [← hu, ByteArray.size_extract]; omega
  have hb5 : t[0].toNat < 256 := t[0].toNat_lt
  obtain ⟨q, hq⟩ : ∃ q : Nat, q = t[0].toNat := ⟨_, rfl⟩
  have eq : (t[0].toNat : Int) = (q : Int) := by omega
  have hq5 : q < 256 := by omega
  have wq : wrap64 (q : Int) = (q : Int) := by unfold wrap64; omega
  have k1 : (1 : Int) ≤ (t.size : Int) := by omega
  have HU : Hid (u = t.extract 1 t.size) := hu.symm
  have h0 : (0 : Int) < (t.size : Int) := by omega
  by_cases c1 : q = 128
  · have HT : Hid (Told t (.returned (.tuple #[.string ⟨#[]⟩, .int .i64 0, .string ⟨#[]⟩]))) := told_none (none_128 h (by omega))
    have d0 : ¬ (128 : Int) < (q : Int) := by omega
    have d1 : ((q : Int) == 128) = true := by simp; omega
    have d1' : (q : Int) = 128 := by omega
    clear hq hb5 zu
    go_enter Try.func26, Try.ntmps26
    go_wp2_with fail
    go_quiet (fail)
    go_wp2
    go_ret3
    exact ⟨HT.out, _, rfl⟩
  have d1 : ((q : Int) == 128) = false := by simp; omega
  have d1' : ¬ (q : Int) = 128 := by omega
  by_cases c2 : 128 < q
  · have d0 : (128 : Int) < (q : Int) := by omega
    by_cases c3 : t.size < 2
    · have HT : Hid (Told t (.returned (.tuple #[.string ⟨#[]⟩, .int .i64 0, .string ⟨#[]⟩]))) := told_none (none_great h (by omega) c3)
      have d3 : (u.size : Int) < 1 := by omega
      have d3' : decide ((u.size : Int) < 1) = true := decide_eq_true d3
      clear hq hb5 zu
      go_enter Try.func26, Try.ntmps26
      go_wp2_with fail
      go_quiet (fail)
      go_wp2
      go_ret3
      exact ⟨HT.out, _, rfl⟩
    · have HT : Hid (Told t (.returned (.tuple #[.string (u.extract 0 1), .int .i64 ((257 - q : Nat) : Int), .string (u.extract 1 u.size)]))) := told_some h (by omega) (by omega) (by omega) (by rw [some_great h (by omega) c3, hq]) u HU.out
      have en : ((257 - q : Nat) : Int) = 257 - (q : Int) := by omega
      rw [en] at HT
      have d3 : ¬ (u.size : Int) < 1 := by omega
      have d3' : decide ((u.size : Int) < 1) = false := decide_eq_false d3
      have d4 : (1 : Int) ≤ (u.size : Int) := by omega
      clear hq hb5 zu en
      go_enter Try.func26, Try.ntmps26
      go_wp2_with fail
      go_quiet (fail)
      go_wp2_with fail
      go_quiet (fail)
      go_wp2
      go_ret3
      exact ⟨HT.out, _, by first | exact World.drewN_drewN _ _ _ | rfl⟩
  · have d0 : ¬ (128 : Int) < (q : Int) := by omega
    obtain ⟨r, hr⟩ : ∃ r : Nat, r = q + 1 := ⟨_, rfl⟩
    have er : (q : Int) + 1 = (r : Int) := by omega
    by_cases c3 : t.size < q + 2
    · have HT : Hid (Told t (.returned (.tuple #[.string ⟨#[]⟩, .int .i64 0, .string ⟨#[]⟩]))) := told_none (none_short h (by omega) (by omega))
      have d3 : (u.size : Int) < (r : Int) := by omega
      have d3' : decide ((u.size : Int) < (r : Int)) = true := decide_eq_true d3
      have hr5 : r ≤ 300 := by omega
      clear hq hb5 zu hr
      go_enter Try.func26, Try.ntmps26
      go_wp2_with fail
      go_quiet (fail)
      go_wp2
      go_ret3
      exact ⟨HT.out, _, rfl⟩
    · have HT : Hid (Told t (.returned (.tuple #[.string (u.extract 0 r), .int .i64 ((1 : Nat) : Int), .string (u.extract r u.size)]))) := told_some h (by omega) (by omega) (by omega) (by rw [some_small h (by omega) (by omega), hr, hq]) u HU.out
      have d3 : ¬ (u.size : Int) < (r : Int) := by omega
      have d3' : decide ((u.size : Int) < (r : Int)) = false := decide_eq_false d3
      have d4 : (r : Int) ≤ (u.size : Int) := by omega
      have hr5 : r ≤ 300 := by omega
      clear hq hb5 zu hr
      go_enter Try.func26, Try.ntmps26
      go_wp2_with fail
      go_quiet (fail)
      go_wp2_with fail
      go_quiet (fail)
      go_wp2
      go_ret3
      exact ⟨HT.out, _, by first | exact World.drewN_drewN _ _ _ | rfl⟩
end Go.Proofs.Ytbffchfadockmaa.Unpi
