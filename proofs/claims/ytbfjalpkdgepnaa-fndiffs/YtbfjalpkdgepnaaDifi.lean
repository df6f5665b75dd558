/-
  Contracts of ours for impl.alikeAt, impl.differing and its iterator, at every text.
-/
import Derived.RangeFuncNested
import Derived.RangeFuncBound
import Derived.RangeFuncCalls
import Derived.RangeFuncLeaves
import Derived.RangeFuncBox
import Derived.Shelf.Abstract
import Derived.Shelf.RegionOpen
import Derived.WalkKit
import Derived.OwnWalkIn
import Derived.TacticsInMore
import Derived.LoopNIn
import Derived.LoopIn
import Derived.Maps.AppendAt
import Derived.Test.YtbfjalpkdgepnaaDifs
namespace Go.Proofs.Ytbfjalpkdgepnaa.Difi
open Go.ChangeShapes Go.WideShapes Go.ChangeAt Go.RowKit Go.Deep Go.Shelf
open Difp Difs
set_option linter.unusedVariables false
set_option maxRecDepth 20000
attribute [local go_sem] Oper.semAt_some
theorem ret_bool {a b : Bool} (h : a = b) : Ending.returned (.bool a) = .returned (.bool b) := by rw [h]
set_option maxHeartbeats 1000000 in
theorem alikeAt_any (a b : ByteArray) (k : Nat) (w : World) (h : k < b.size) (ha : a.size ≤ 1048576) (hb : b.size ≤ 1048576) :
    Calls Try.prog 28 #[.string a, .string b, .int .i64 (k : Int)] w fun e w' => e = .returned (.bool (alike a b k)) ∧ ∃ n, w' = w.drewN n := by
  have k0 : (0 : Int) ≤ (k : Int) := by omega
  have k1 : (k : Int) < (b.size : Int) := by omega
  rcases alike_of (a := a) h with ⟨al, h1, h2⟩ | ⟨al, h1⟩
  · rw [al]
    have d1 : decide ((k : Int) < (a.size : Int)) = true := decide_eq_true (by omega)
    have d1' : decide (k < a.size) = true := decide_eq_true (by omega)
    have k2 : (k : Int) < (a.size : Int) := by omega
    have d3 : ((a[k].toNat : Int) == (b[k].toNat : Int)) = true := by simp [h2]
    go_enter Try.func28, Try.ntmps28
    go_wp2_with fail
    go_quiet (fail)
    go_wp2
    go_ret
    exact ⟨rfl, _, rfl⟩
  · rw [al]
    rcases h1 with h1 | ⟨h1, h2⟩
    · have d1 : decide ((k : Int) < (a.size : Int)) = false := decide_eq_false (by omega)
      have d1' : decide (k < a.size) = false := decide_eq_false (by omega)
      go_enter Try.func28, Try.ntmps28
      go_wp2_with fail
      go_quiet (fail)
      go_wp2
      go_ret
      exact ⟨rfl, _, rfl⟩
    · have d1 : decide ((k : Int) < (a.size : Int)) = true := decide_eq_true (by omega)
      have k2 : (k : Int) < (a.size : Int) := by omega
      have d3 : ((a[k].toNat : Int) == (b[k].toNat : Int)) = false := by simp [h2]
      go_enter Try.func28, Try.ntmps28
      go_wp2_with fail
      go_quiet (fail)
      go_wp2
      go_ret
      exact ⟨rfl, _, rfl⟩
set_option maxHeartbeats 1000000 in
theorem differing_in (a b : ByteArray) (w : World) :
    CallsIn Fence.wide 5 Try.prog 16 #[.string a, .string b] w fun e w' => e = .returned (.func (.func 27) #[] #[.pointer (some ⟨w.heap.size + 1, 0, none⟩), .pointer (some ⟨w.heap.size, 0, none⟩)]) ∧ w' = (w.alloc (.cells #[.string a] 9)).alloc (.cells #[.string b] 9) := by
  refine callsIn_of_wp Try.func16 rfl trivial ?_ rfl
  simp only [Try.ntmps16, List.size_toArray, List.length_cons, List.length_nil, Nat.reduceAdd, Nat.reduceSub, Array.replicate_succ, Array.replicate_zero, List.push_toArray, List.append_toArray, List.nil_append, List.cons_append]
  gi_wp2
  go_ret
  exact ⟨rfl, rfl⟩
abbrev Pce := { p : Nat × ByteArray // p.1 ≤ 20000 ∧ p.2.size ≤ 20000 }
def encs (x : Pce) : Array Value := #[.int .i64 x.1.1, .string x.1.2]
def Kp (Ba Bb : Nat) (W W' : World) : Prop := W'.heap[Ba]? = W.heap[Ba]? ∧ W'.heap[Bb]? = W.heap[Bb]?
set_option maxHeartbeats 1000000 in
theorem iter_in (n : Nat) (hn : 1 ≤ n) (l Ba Bb : Nat) (a b : ByteArray) (ha : a.size ≤ 20000) (hb : b.size ≤ 20000) (J Jx : List Pce → World → Prop)
    (hY : ∀ pre x W, J pre W → pre.length < b.size → YieldAt Fence.wide (n - 1) Try.prog l (encs x) W fun e W' =>
      (e = .returned (.bool true) ∧ J (pre ++ [x]) W' ∧ Kp Ba Bb W W') ∨ (e = .returned (.bool false) ∧ Jx (pre ++ [x]) W'))
    (W : World) (hA : W.cell? ⟨Ba, 0, none⟩ = some (.string a)) (hB : W.cell? ⟨Bb, 0, none⟩ = some (.string b)) (h0 : J [] W) (hJd : ∀ pre A k, J pre A → J pre (A.drewN k)) :
    CallsIn Fence.wide n Try.prog 27 #[.func (.yield l) #[] #[], .pointer (some ⟨Bb, 0, none⟩), .pointer (some ⟨Ba, 0, none⟩)] W fun e W' => (∃ v, e = .returned v) ∧
      ((∃ ys : List Pce, ys.map (·.1) = Pieces a b 0 ∧ J ys W') ∨ (∃ pre : List Pce, True ∧ Jx pre W')) := by
  have HY : Hid (∀ pre x W, J pre W → pre.length < b.size → YieldAt Fence.wide (n - 1) Try.prog l (encs x) W fun e W' =>
      (e = .returned (.bool true) ∧ J (pre ++ [x]) W' ∧ Kp Ba Bb W W') ∨ (e = .returned (.bool false) ∧ Jx (pre ++ [x]) W')) := hY
  have HJd : Hid (∀ pre A k, J pre A → J pre (A.drewN k)) := hJd
  clear hY hJd
  have CA : Hid (∀ A, Kp Ba Bb W A → A.cell? ⟨Ba, 0, none⟩ = some (.string a) ∧ A.cell? ⟨Bb, 0, none⟩ = some (.string b)) := fun A h => ⟨(World.cell?_of_block (a := ⟨Ba, 0, none⟩) h.1).trans hA, (World.cell?_of_block (a := ⟨Bb, 0, none⟩) h.2).trans hB⟩
  refine callsIn_of_wp Try.func27 rfl trivial ?_ rfl
  simp only [Try.ntmps27, List.size_toArray, List.length_cons, List.length_nil, Nat.reduceAdd, Nat.reduceSub, Array.replicate_succ, Array.replicate_zero, List.push_toArray, List.append_toArray, List.nil_append, List.cons_append]
  clear hA hB
  gi_wp2
  gi_loopw [4] (fun i wr => ∃ (pre : List Pce) (k : Nat), i = .int .i64 k ∧ k ≤ 20001 ∧ pre.length ≤ k ∧ Hid (pre.map (·.1) ++ Pieces a b k = Pieces a b 0) ∧ Hid (Kp Ba Bb W wr) ∧ Hid (J pre wr)) (fun i _ => 20002 - (intOf i).toNat)
  case atStart => exact ⟨[], 0, rfl, by omega, by simp, rfl, ⟨rfl, rfl⟩, h0⟩
  case round =>
    obtain ⟨pre, k, rfl, hk, hp, hps, hkp, hJ⟩ := hrel
    obtain ⟨ca, cb⟩ := CA.out _ hkp.out
    by_cases hlt : k < b.size
    · have hlt' : (k : Int) < (b.size : Int) := by omega
      gi_wp2_with fail
      gi_loopw [4] (fun i wr => ∃ (n j : Nat), i = .int .i64 (j : Int) ∧ j ≤ b.size ∧ Hid (j = k + n) ∧ Hid (∀ i, i < n → alike a b (k + i) = false) ∧ Hid (Kp Ba Bb W wr) ∧ Hid (J pre wr)) (fun i _ => b.size - (intOf i).toNat)
      case atStart => exact ⟨0, k, rfl, by omega, rfl, fun i h => absurd h (Nat.not_lt_zero _), hkp.out, hJ.out⟩
      case round =>
        clear ca cb hkp hJ
        obtain ⟨n', j, rfl, hj, HJ, hall, hkp, hJ⟩ := hrel
        obtain ⟨ca, cb⟩ := CA.out _ hkp.out
        have STOP : Hid (b.size ≤ j ∨ alike a b j = true → gap a b k = n') := fun h => gap_eq (by have := HJ.out; omega) hall.out (by rw [← HJ.out]; exact h)
        by_cases c1 : j < b.size
        · have d1 : decide ((j : Int) < (b.size : Int)) = true := decide_eq_true (by omega)
          have d1' : decide (j < b.size) = true := decide_eq_true (by omega)
          have cal := fun w => alikeAt_any a b j w c1 (by omega) (by omega)
          cases al : alike a b j with
          | true =>
            rw [al] at cal
            have G : Hid (gap a b k = n') := STOP.out (.inr al)
            clear STOP hall
            by_cases n0 : n' = 0
            · have HS : Hid (pre.map (·.1) ++ Pieces a b (k + 1) = Pieces a b 0) := by
                have := hps.out
                rw [pieces_skip hlt (by rw [G.out]; exact n0)] at this
                exact this
              have ejk : Hid (j = k) := by have := HJ.out; show _ = _; omega
              have ejk' : ¬ (k : Int) < (j : Int) := by have := ejk.out; omega
              have dg : decide ((k : Int) < (j : Int)) = false := decide_eq_false ejk'
              clear G
              gi_wp2_with (refine ⟨trivial, ?_⟩; gi_at_call 28; refine (callsIn_wide.2 (cal _)).mono ?_; rintro e wz ⟨rfl, nz, hnz⟩; have hkp2 : Hid (Kp Ba Bb W wz) := (by rw [hnz]; exact hkp.out); have hJ2 : Hid (J pre wz) := (by rw [hnz]; exact HJd.out _ _ _ hJ.out); obtain ⟨ca2, cb2⟩ := CA.out _ hkp2.out; clear hnz)
              refine ⟨fun _ h => (by cases h), ?_⟩
              gi_wp2
              go_roundw
              case rel => exact ⟨pre, k + 1, by have := ejk.out; congr 1; omega, by omega, by omega, HS.out, hkp2.out, hJ2.out⟩
              case measure => have := ejk.out; simp [intOf]; omega
            · have HP : Hid (pre.map (·.1) ++ (k, b.extract k j) :: Pieces a b (j + 1) = Pieces a b 0) := by
                have := hps.out
                rw [pieces_one hlt (by rw [G.out]; exact n0), G.out, ← HJ.out] at this
                exact this
              have kj : (k : Int) < (j : Int) := by have := HJ.out; omega
              have dg : decide ((k : Int) < (j : Int)) = true := decide_eq_true kj
              have kj' : (k : Int) ≤ (j : Int) := by omega
              have jb : (j : Int) ≤ (b.size : Int) := by omega
              have k0 : (0 : Int) ≤ (k : Int) := by omega
              have zx : (b.extract k j).size ≤ 20000 := by rw [ByteArray.size_extract]; omega
              have kz : k ≤ 20000 := by omega
              clear G
              gi_wp2_with (refine ⟨trivial, ?_⟩; gi_at_call 28; refine (callsIn_wide.2 (cal _)).mono ?_; rintro e wz ⟨rfl, nz, hnz⟩; have hkp2 : Hid (Kp Ba Bb W wz) := (by rw [hnz]; exact hkp.out); have hJ2 : Hid (J pre wz) := (by rw [hnz]; exact HJd.out _ _ _ hJ.out); obtain ⟨ca2, cb2⟩ := CA.out _ hkp2.out; clear hnz; obtain ⟨fn, tmps, assign, body, hy, hR⟩ := HY.out pre ⟨(k, b.extract k j), kz, zx⟩ wz hJ2.out (by omega); dsimp only [encs] at hy)
              refine hR.mono ?_
              rintro e W3 (⟨rfl, hJ3, hk3⟩ | ⟨rfl, hJx3⟩)
              · have HJ3 : Hid (J _ W3) := hJ3
                have HK3 : Hid (Kp Ba Bb W W3) := ⟨hk3.1.trans hkp2.out.1, hk3.2.trans hkp2.out.2⟩
                obtain ⟨ca3, cb3⟩ := CA.out _ HK3.out
                clear hJ3 hk3
                gi_wp2
                go_roundw
                case rel => exact ⟨pre ++ [(⟨(k, b.extract k j), kz, zx⟩ : Pce)], j + 1, by go_num, by omega, by have := HJ.out; simp; omega, by have := HP.out; show _ = _; simpa using this, HK3.out, HJ3.out⟩
                case measure => have := HJ.out; simp [intOf]; omega
              · gi_wp2
                refine bodyPost_ret (results_none rfl _ _ _) rfl ?_
                exact ⟨⟨_, rfl⟩, .inr ⟨_, trivial, hJx3⟩⟩
          | false =>
            rw [al] at cal
            have HN : Hid (∀ i, i < n' + 1 → alike a b (k + i) = false) := fun i hi => by
              rcases Nat.lt_or_ge i n' with h' | h'
              · exact hall.out i h'
              · obtain rfl : i = n' := by omega
                rw [← HJ.out]; exact al
            clear STOP hall
            gi_wp2_with (refine ⟨trivial, ?_⟩; gi_at_call 28; refine (callsIn_wide.2 (cal _)).mono ?_; rintro e wz ⟨rfl, nz, hnz⟩; have hkp2 : Hid (Kp Ba Bb W wz) := (by rw [hnz]; exact hkp.out); have hJ2 : Hid (J pre wz) := (by rw [hnz]; exact HJd.out _ _ _ hJ.out); obtain ⟨ca2, cb2⟩ := CA.out _ hkp2.out; clear hnz)
            go_roundw
            case rel => exact ⟨n' + 1, j + 1, by go_num, by omega, by have := HJ.out; show _ = _; omega, HN.out, hkp2.out, hJ2.out⟩
            case measure => simp [intOf]; omega
        · have d1 : decide ((j : Int) < (b.size : Int)) = false := decide_eq_false (by omega)
          have d1' : decide (j < b.size) = false := decide_eq_false (by omega)
          have G : Hid (gap a b k = n') := STOP.out (.inl (by omega))
          clear STOP hall
          by_cases n0 : n' = 0
          · exfalso; have := HJ.out; omega
          · have HP : Hid (pre.map (·.1) ++ (k, b.extract k j) :: Pieces a b (j + 1) = Pieces a b 0) := by
              have := hps.out
              rw [pieces_one hlt (by rw [G.out]; exact n0), G.out, ← HJ.out] at this
              exact this
            have kj : (k : Int) < (j : Int) := by have := HJ.out; omega
            have dg : decide ((k : Int) < (j : Int)) = true := decide_eq_true kj
            have kj' : (k : Int) ≤ (j : Int) := by omega
            have jb : (j : Int) ≤ (b.size : Int) := by omega
            have k0 : (0 : Int) ≤ (k : Int) := by omega
            have zx : (b.extract k j).size ≤ 20000 := by rw [ByteArray.size_extract]; omega
            have kz : k ≤ 20000 := by omega
            clear G
            obtain ⟨fn, tmps, assign, body, hy, hR⟩ := HY.out pre ⟨(k, b.extract k j), kz, zx⟩ wr hJ.out (by omega)
            dsimp only [encs] at hy
            gi_wp2_with fail
            refine ⟨trivial, ?_⟩
            gi_wp2_with fail
            refine hR.mono ?_
            rintro e W3 (⟨rfl, hJ3, hk3⟩ | ⟨rfl, hJx3⟩)
            · have HJ3 : Hid (J _ W3) := hJ3
              have HK3 : Hid (Kp Ba Bb W W3) := ⟨hk3.1.trans hkp.out.1, hk3.2.trans hkp.out.2⟩
              obtain ⟨ca3, cb3⟩ := CA.out _ HK3.out
              clear hJ3 hk3
              gi_wp2
              go_roundw
              case rel => exact ⟨pre ++ [(⟨(k, b.extract k j), kz, zx⟩ : Pce)], j + 1, by go_num, by omega, by have := HJ.out; simp; omega, by have := HP.out; show _ = _; simpa using this, HK3.out, HJ3.out⟩
              case measure => have := HJ.out; simp [intOf]; omega
            · gi_wp2
              refine bodyPost_ret (results_none rfl _ _ _) rfl ?_
              exact ⟨⟨_, rfl⟩, .inr ⟨_, trivial, hJx3⟩⟩
    · have hlt' : ¬ (k : Int) < (b.size : Int) := by omega
      have HF : Hid (pre.map (·.1) = Pieces a b 0) := by
        have := hps.out
        rw [pieces_end hlt, List.append_nil] at this
        exact this
      gi_wp2
      go_end0
      exact ⟨⟨_, rfl⟩, .inl ⟨pre, HF.out, hJ.out⟩⟩
theorem grow_drewN (w : World) (n : Nat) : w.grownBy (w.drewN n) none := ⟨rfl, rfl, rfl, Nat.le_refl _, fun _ _ _ => rfl⟩
theorem diff_stops (n : Nat) (hn : 1 ≤ n) (Ba Bb : Nat) (a b : ByteArray) (ha : a.size ≤ 20000) (hb : b.size ≤ 20000) (w : World) (hA : w.cell? ⟨Ba, 0, none⟩ = some (.string a)) (hB : w.cell? ⟨Bb, 0, none⟩ = some (.string b)) (la : Ba < w.heap.size) (lb : Bb < w.heap.size) :
    SeqStopsK Fence.wide n Try.prog 27 #[.pointer (some ⟨Bb, 0, none⟩), .pointer (some ⟨Ba, 0, none⟩)] encs (Kp Ba Bb) (fun ys => ys.map (·.1) = Pieces a b 0) (fun _ => True) b.size w := fun l J Jx W hW hJ _ hY h0 =>
  iter_in n hn l Ba Bb a b ha hb J Jx hY W ((hW.cell (p := ⟨Ba, 0, none⟩) la).trans hA) ((hW.cell (p := ⟨Bb, 0, none⟩) lb).trans hB) h0 (fun pre A k h => hJ pre A _ none h (grow_drewN A k) (fun r e => by cases e))
end Go.Proofs.Ytbfjalpkdgepnaa.Difi
