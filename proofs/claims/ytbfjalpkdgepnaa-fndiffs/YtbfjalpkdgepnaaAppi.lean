/-
  Contracts of ours for impl.diffParts, impl.pieceAhead, impl.piecesIn and its iterator, at every text.
-/
import Derived.RangeFuncNested
import Derived.RangeFuncBound
import Derived.RangeFuncCalls
import Derived.RangeFuncLeaves
import Derived.RangeFuncBox
import Derived.Shelf.Abstract
import Derived.Shelf.RegionOpen
import Derived.WalkKit
import Derived.OwnWalkIn
import Derived.TacticsInMore
import Derived.LoopNIn
import Derived.LoopIn
import Derived.Maps.AppendAt
import Derived.Test.YtbfjalpkdgepnaaApps
import Derived.Test.YtbfjalpkdgepnaaShelg
namespace Go.Proofs.Ytbfjalpkdgepnaa.Appi
open Go.ChangeShapes Go.WideShapes Go.ChangeAt Go.RowKit Go.Deep Go.Shelf
open Appn Appp Apps
set_option linter.unusedVariables false
set_option linter.unusedSimpArgs false
set_option maxRecDepth 20000
attribute [local go_sem] Oper.semAt_some
def Mk (d : ByteArray) : Prop := d.extract 0 4 = DIFF ∧ d.extract (d.size - 6) (d.size - 3) = END
theorem eq_list {s t : ByteArray} : s = t ↔ s.data.toList = t.data.toList := ⟨fun h => by rw [h], fun h => ByteArray.ext (Array.toList_inj.1 h)⟩
theorem cut_pure {d : ByteArray} {m : Nat} (hm : m + 3 = d.size) (h7 : 7 ≤ m) :
    ((Lib.hasPrefix (X d 0 m) DIFF.data.toList && Lib.hasSuffix (Lib.trimPrefix (X d 0 m) DIFF.data.toList) END.data.toList) = true ↔ Mk d) ∧
    (Mk d → (⟨(Lib.trimSuffix (Lib.trimPrefix (X d 0 m) DIFF.data.toList) END.data.toList).toArray⟩ : ByteArray) = mid d) := by
  have l4 : DIFF.data.toList.length = 4 := rfl
  have l3 : END.data.toList.length = 3 := rfl
  have z1 : (X d 0 m).length = m := by rw [X_len d (by omega)]; omega
  have z2 : (X d 4 m).length = m - 4 := X_len d (by omega)
  have p1 : Lib.hasPrefix (X d 0 m) DIFF.data.toList = true ↔ d.extract 0 4 = DIFF := by
    rw [← Lib.hasPrefix_of_take, l4, z1, decide_eq_true (show 4 ≤ m by omega), Bool.true_and, beq_iff_eq, X_take d (show 0 + 4 ≤ m by omega), eq_list]
  have p2 : Lib.hasSuffix (X d 4 m) END.data.toList = true ↔ d.extract (d.size - 6) (d.size - 3) = END := by
    rw [← Lib.hasSuffix_of_drop, l3, z2, decide_eq_true (show 3 ≤ m - 4 by omega), Bool.true_and, beq_iff_eq, X_drop, show 4 + (m - 4 - 3) = d.size - 6 by omega, show m = d.size - 3 by omega, eq_list]
  have t1 : d.extract 0 4 = DIFF → Lib.trimPrefix (X d 0 m) DIFF.data.toList = X d 4 m := fun h => by
    unfold Lib.trimPrefix
    rw [if_pos (p1.2 h), l4, X_drop]
  constructor
  · rw [Bool.and_eq_true]
    constructor
    · rintro ⟨h1, h2⟩
      have h1' := p1.1 h1
      rw [t1 h1'] at h2
      exact ⟨h1', p2.1 h2⟩
    · rintro ⟨h1, h2⟩
      refine ⟨p1.2 h1, ?_⟩
      rw [t1 h1]
      exact p2.2 h2
  · rintro ⟨h1, h2⟩
    rw [t1 h1]
    unfold Lib.trimSuffix
    rw [if_pos (p2.2 h2), l3, z2, X_take d (show 4 + (m - 4 - 3) ≤ m by omega), show 4 + (m - 4 - 3) = d.size - 6 by omega]
    rfl
theorem trim_le (s p q : List UInt8) : (Lib.trimSuffix (Lib.trimPrefix s p) q).length ≤ s.length := by
  have := Lib.trimPrefix_le s p
  unfold Lib.trimSuffix
  split
  · rw [List.length_take]; omega
  · exact this
/-- What diffParts tells. -/
def PartsT (d : ByteArray) (e : Ending) : Prop := ∃ (P : ByteArray) (ok : Bool), e = .returned (.tuple #[.string P, .int .i64 (allOf d : Nat), .bool ok]) ∧ (ok = true ↔ Mk d) ∧ (Mk d → P = mid d)
set_option maxHeartbeats 1000000 in
theorem parts_any (d : ByteArray) (w : World) (h10 : 10 ≤ d.size) (h8 : d.size ≤ 80000) :
    Calls Try.prog 20 #[.string d] w fun e w' => PartsT d e ∧ ∃ n, w' = w.drewN n := by
  obtain ⟨m, hm⟩ : ∃ m : Nat, m + 3 = d.size := ⟨d.size - 3, by omega⟩
  have em : (d.size : Int) - 3 = (m : Int) := by omega
  have m0 : (0 : Int) ≤ (m : Int) := by omega
  have m1 : (m : Int) ≤ (d.size : Int) := by omega
  have ew : IntKind.i64.wrap (m : Int) = (m : Int) := by rw [IntKind.wrap_i64]; omega
  have d0 : decide ((d.size : Int) < 10) = false := decide_eq_false (by omega)
  have d1 : decide ((80000 : Int) < (d.size : Int)) = false := decide_eq_false (by omega)
  obtain ⟨p1, p2⟩ := cut_pure hm (by omega)
  have cp := fun w => Try.strings_CutPrefix (d.extract 0 m) DIFF w
  obtain ⟨T, hT⟩ : ∃ T : ByteArray, T = ⟨(Lib.trimPrefix (X d 0 m) DIFF.data.toList).toArray⟩ := ⟨_, rfl⟩
  have cs := fun w => Try.strings_CutSuffix T END w (by
    rw [hT]; show (Lib.trimPrefix (X d 0 m) DIFF.data.toList).toArray.size ≤ _
    rw [List.size_toArray]
    have := Lib.trimPrefix_le (X d 0 m) DIFF.data.toList
    rw [X_len d (by omega)] at this
    omega)
  have eT : T.data.toList = Lib.trimPrefix (X d 0 m) DIFF.data.toList := by rw [hT]
  rw [eT] at cs
  rw [← hT] at cp
  have cr := fun w => high_any (d.extract m d.size) w (by rw [ByteArray.size_extract]; omega)
  have AL : num (d.extract m d.size).data.toList = allOf d := by unfold allOf; rw [show d.size - 3 = m by omega]
  rw [AL] at cr
  have HP : Hid ((Lib.hasPrefix (X d 0 m) DIFF.data.toList && Lib.hasSuffix (Lib.trimPrefix (X d 0 m) DIFF.data.toList) END.data.toList) = true ↔ Mk d) := p1
  have HM : Hid (Mk d → (⟨(Lib.trimSuffix (Lib.trimPrefix (X d 0 m) DIFF.data.toList) END.data.toList).toArray⟩ : ByteArray) = mid d) := p2
  generalize (⟨(Lib.trimSuffix (Lib.trimPrefix (X d 0 m) DIFF.data.toList) END.data.toList).toArray⟩ : ByteArray) = P at *
  generalize Lib.hasSuffix (Lib.trimPrefix (X d 0 m) DIFF.data.toList) END.data.toList = b2 at *
  generalize Lib.hasPrefix (X d 0 m) DIFF.data.toList = b1 at *
  clear p1 p2 hT eT AL hm
  cases b1 <;> (
    go_enter Try.func20, Try.ntmps20
    go_wp2_with fail
    go_quiet (fail)
    go_wp2_with first
      | (refine (cp _).mono ?_; rintro e w' ⟨rfl, rfl⟩)
      | (refine (cs _).mono ?_; rintro e w' ⟨rfl, rfl⟩)
      | (refine (cr _).mono ?_; rintro e w' ⟨rfl, rfl⟩)
    go_ret3
    exact ⟨⟨P, _, rfl, HP.out, HM.out⟩, _, rfl⟩)
set_option maxHeartbeats 1000000 in
theorem parts_small (d : ByteArray) (w : World) (hn : ¬ (10 ≤ d.size ∧ d.size ≤ 80000)) (hd : d.size ≤ 1048576) :
    Calls Try.prog 20 #[.string d] w fun e w' => e = .returned (.tuple #[.string ⟨#[]⟩, .int .i64 0, .bool false]) ∧ ∃ n, w' = w.drewN n := by
  by_cases h1 : d.size < 10
  · have d0 : decide ((d.size : Int) < 10) = true := decide_eq_true (by omega)
    go_enter Try.func20, Try.ntmps20
    go_wp2
    go_ret3
    exact ⟨rfl, 0, rfl⟩
  · have d0 : decide ((d.size : Int) < 10) = false := decide_eq_false (by omega)
    have d1 : decide ((80000 : Int) < (d.size : Int)) = true := decide_eq_true (by omega)
    go_enter Try.func20, Try.ntmps20
    go_wp2
    go_ret3
    exact ⟨rfl, 0, rfl⟩
abbrev L (t : ByteArray) : List UInt8 := t.data.toList
theorem L_len (t : ByteArray) : (L t).length = t.size := Array.length_toList
theorem L_part (t : ByteArray) (i n : Nat) (h : i + n ≤ t.size) : ((L t).drop i).take n = X t i (i + n) := by
  rw [X_eq, Nat.add_sub_cancel_left]
theorem L_drop (t : ByteArray) (i : Nat) : (L t).drop i = X t i t.size := by
  rw [X_eq]
  exact (List.take_of_length_le (by rw [List.length_drop, L_len]; exact Nat.le_refl _)).symm
/-- What pieceAhead tells. -/
def AheadT (t : ByteArray) (e : Ending) : Prop := ∃ (n : Nat) (v t' : ByteArray), e = .returned (.tuple #[.int .i64 n, .string v, .string t']) ∧ n = (nextP (L t)).1 ∧ L v = (nextP (L t)).2.1 ∧ L t' = (nextP (L t)).2.2 ∧ n < 16777216 ∧ v.size ≤ 65535 ∧ t'.size ≤ t.size
theorem told_none {t : ByteArray} (h : nextP (L t) = (0, [], [])) : AheadT t (.returned (.tuple #[.int .i64 0, .string ⟨#[]⟩, .string ⟨#[]⟩])) :=
  ⟨0, ⟨#[]⟩, ⟨#[]⟩, rfl, by rw [h], by rw [h], by rw [h], by decide, by decide, Nat.zero_le _⟩
theorem told_some {t : ByteArray} {n : Nat} (h5 : 5 ≤ t.size) (hn : n = 5 + num (X t 3 5)) (hl : ¬ t.size < n) : AheadT t (.returned (.tuple #[.int .i64 (num (X t 0 3) : Nat), .string (t.extract 5 n), .string (t.extract n t.size)])) := by
  have e : nextP (L t) = (num (X t 0 3), X t 5 n, X t n t.size) := by
    have e1 : (L t).take 3 = X t 0 3 := L_part t 0 3 (by omega)
    have e2 : ((L t).drop 3).take 2 = X t 3 5 := L_part t 3 2 (by omega)
    unfold nextP
    rw [e1, e2, L_len, if_neg (by omega), if_neg (by omega), L_drop t (5 + _), ← hn, L_part t 5 _ (by omega), ← hn]
  have l1 := num_lt (X t 0 3)
  have l2 := num_lt (X t 3 5)
  rw [X_len t (by omega)] at l1 l2
  refine ⟨_, _, _, rfl, by rw [e], by rw [e], by rw [e], l1, ?_, ?_⟩
  · rw [ByteArray.size_extract]; simp at l2; omega
  · rw [ByteArray.size_extract]; omega
set_option maxHeartbeats 1000000 in
theorem ahead_any (t : ByteArray) (w : World) (hs : t.size ≤ 1048576) :
    Calls Try.prog 33 #[.string t] w fun e w' => AheadT t e ∧ ∃ n, w' = w.drewN n := by
  by_cases h5 : t.size < 5
  · have HT : Hid (AheadT t (.returned (.tuple #[.int .i64 0, .string ⟨#[]⟩, .string ⟨#[]⟩]))) := told_none (by unfold nextP; rw [L_len, if_pos h5])
    have d0 : decide ((t.size : Int) < 5) = true := decide_eq_true (by omega)
    go_enter Try.func33, Try.ntmps33
    go_wp2
    go_ret3
    exact ⟨HT.out, 0, rfl⟩
  have d0 : decide ((t.size : Int) < 5) = false := decide_eq_false (by omega)
  have k3 : (3 : Int) ≤ (t.size : Int) := by omega
  have k5 : (5 : Int) ≤ (t.size : Int) := by omega
  have c1 := fun w => high_any (t.extract 0 3) w (by rw [ByteArray.size_extract]; omega)
  have c2 := fun w => high_any (t.extract 3 5) w (by rw [ByteArray.size_extract]; omega)
  have l2 := num_lt (X t 3 5)
  rw [X_len t (by omega)] at l2
  have l1 := num_lt (X t 0 3)
  rw [X_len t (by omega)] at l1
  obtain ⟨n, hn⟩ : ∃ n : Nat, n = 5 + num (X t 3 5) := ⟨_, rfl⟩
  have HN : Hid (n = 5 + num (X t 3 5)) := hn
  have HM : Hid (¬ t.size < 5) := h5
  have hn2 : n ≤ 65540 := by simp at l2; omega
  obtain ⟨q, hq⟩ : ∃ q : Nat, q = num (X t 3 5) := ⟨_, rfl⟩
  have c2 : ∀ w, Calls Try.prog 31 #[.string (t.extract 3 5)] w fun e w' => e = .returned (.int .i64 (q : Nat)) ∧ w' = w := by rw [hq]; exact c2
  obtain ⟨p, hp⟩ : ∃ p : Nat, num (X t 0 3) = p := ⟨_, rfl⟩
  have c1 : ∀ w, Calls Try.prog 31 #[.string (t.extract 0 3)] w fun e w' => e = .returned (.int .i64 (p : Nat)) ∧ w' = w := by rw [← hp]; exact c1
  have en : (5 : Int) + (q : Int) = (n : Int) := by omega
  have ew : IntKind.i64.wrap (n : Int) = (n : Int) := by rw [IntKind.wrap_i64]; omega
  have hq2 : q ≤ 65535 := by omega
  by_cases hl : t.size < n
  · have HT : Hid (AheadT t (.returned (.tuple #[.int .i64 0, .string ⟨#[]⟩, .string ⟨#[]⟩]))) := told_none (by
      have e2 : ((L t).drop 3).take 2 = X t 3 5 := L_part t 3 2 (by omega)
      unfold nextP; rw [e2, L_len, if_neg h5, if_pos (by omega)])
    have d1 : decide ((t.size : Int) < (n : Int)) = true := decide_eq_true (by omega)
    have d1' : (t.size : Int) < (n : Int) := by omega
    clear hq hp hn l1 l2 h5 hl
    go_enter Try.func33, Try.ntmps33
    go_wp2_with first
      | (with_reducible refine (c1 _).mono ?_; rintro e w' ⟨rfl, rfl⟩)
      | (with_reducible refine (c2 _).mono ?_; rintro e w' ⟨rfl, rfl⟩)
    go_ret3
    exact ⟨HT.out, 0, rfl⟩
  · have HT : Hid (AheadT t (.returned (.tuple #[.int .i64 (p : Nat), .string (t.extract 5 n), .string (t.extract n t.size)]))) := by rw [← hp]; exact told_some (by omega) hn hl
    have d1 : decide ((t.size : Int) < (n : Int)) = false := decide_eq_false (by omega)
    have d1' : ¬ (t.size : Int) < (n : Int) := by omega
    have d2 : (5 : Int) ≤ (n : Int) := by omega
    have d3 : (n : Int) ≤ (t.size : Int) := by omega
    clear hq hp hn l1 l2 h5 hl
    go_enter Try.func33, Try.ntmps33
    go_wp2_with first
      | (with_reducible refine (c1 _).mono ?_; rintro e w' ⟨rfl, rfl⟩)
      | (with_reducible refine (c2 _).mono ?_; rintro e w' ⟨rfl, rfl⟩)
    go_quiet (fail)
    go_wp2
    go_ret3
    exact ⟨HT.out, _, rfl⟩
end Go.Proofs.Ytbfjalpkdgepnaa.Appi
