/-
  Contracts of ours for impl.runsOf and its iterator, impl.PackedOf, at every text.
-/
import Derived.RangeFuncNested
import Derived.RangeFuncBound
import Derived.RangeFuncCalls
import Derived.RangeFuncLeaves
import Derived.RangeFuncBox
import Derived.Shelf.Abstract
import Derived.Shelf.RegionOpen
import Derived.WalkKit
import Derived.OwnWalkIn
import Derived.TacticsInMore
import Derived.LoopNIn
import Derived.LoopIn
import Derived.Maps.AppendAt
import Derived.Test.YtbffchfadockmaaPaki
namespace Go.Proofs.Ytbffchfadockmaa.Pakj
open Go.ChangeShapes Go.WideShapes Go.ChangeAt Go.RowKit Go.Deep Go.Shelf
open Pakp Paks Paki
set_option linter.unusedVariables false
set_option maxRecDepth 20000
attribute [local go_sem] Oper.semAt_some

abbrev Run := { p : ByteArray × Bool // 1 ≤ p.1.size ∧ p.1.size ≤ 128 ∧ (p.2 = true → 3 ≤ p.1.size) }
def encs (x : Run) : Array Value := #[.string x.1.1, .bool x.1.2]
def told (x : Run) : List UInt8 × Bool := (x.1.1.data.toList, x.1.2)
set_option maxHeartbeats 1000000 in
theorem runsOf_in (s : ByteArray) (w : World) :
    CallsIn Fence.wide 5 Try.prog 15 #[.string s] w fun e w' => e = .returned (.func (.func 22) #[] #[.pointer (some ⟨w.heap.size, 0, none⟩)]) ∧ w' = w.alloc (.cells #[.string s] 9) := by
  refine callsIn_of_wp Try.func15 rfl trivial ?_ rfl
  simp only [Try.ntmps15, List.size_toArray, List.length_cons, List.length_nil, Nat.reduceAdd, Nat.reduceSub, Array.replicate_succ, Array.replicate_zero, List.push_toArray, List.append_toArray, List.nil_append, List.cons_append]
  gi_wp2
  go_ret
  exact ⟨rfl, rfl⟩
def vsize : Value → Nat
  | .string s => s.size
  | _ => 0
theorem ext_self (s : ByteArray) : s.extract 0 s.size = s := by
  apply ByteArray.ext; rw [ByteArray.data_extract]; exact Array.extract_size ..
theorem ext_ext (s : ByteArray) (k r : Nat) (t : ByteArray) (ht : t = s.extract k s.size) : t.extract r t.size = s.extract (k + r) s.size := by
  subst ht
  apply ByteArray.ext
  rw [ByteArray.data_extract, ByteArray.data_extract, ByteArray.data_extract, Array.extract_extract, ByteArray.size_extract]
  congr 1
  omega
theorem grow_drewN (w : World) (n : Nat) : w.grownBy (w.drewN n) none := ⟨rfl, rfl, rfl, Nat.le_refl _, fun _ _ _ => rfl⟩
theorem empty_yes {s : ByteArray} (h : s.size = 0) : s.toList.isEmpty = true := by
  rw [ByteArray.toList_eq, List.isEmpty_iff, ← List.length_eq_zero_iff, Array.length_toList]; exact h
theorem empty_no {s : ByteArray} (h : ¬ s.size = 0) : s.toList.isEmpty = false := by
  rw [Bool.eq_false_iff, Ne, ByteArray.toList_eq, List.isEmpty_iff, ← List.length_eq_zero_iff, Array.length_toList]; exact h
/-- One run more. -/
theorem more {s t : ByteArray} {k m : Nat} {b : Bool} {pre : List Run} (x : Run) (hk : k < s.size) (ht : t = s.extract k s.size) (hx : x.1 = (t.extract 0 m, b)) (hm : many (D s k) = m) (hb : alike (D s k) = b) (h : pre.map told ++ RunsOf (D s k) = RunsOf (D s 0)) :
    (pre ++ [x]).map told ++ RunsOf (D s (k + m)) = RunsOf (D s 0) := by
  have hml := many_len (D s k)
  rw [D_len] at hml
  rw [← h, RunsOf_cons (D_ne hk), hm, D_drop, List.map_append, List.append_assoc]
  congr 1
  simp only [List.map_cons, List.map_nil, List.cons_append, List.nil_append]
  congr 1
  unfold told
  rw [hx, hb]
  congr 1
  have := ext_list t 0 m (by rw [ht, ByteArray.size_extract]; omega)
  rw [Nat.zero_add] at this
  show (t.extract 0 m).data.toList = _
  rw [this, ht, D_ext]
set_option maxHeartbeats 1000000 in
theorem iter_in (n : Nat) (hn : 1 ≤ n) (l B : Nat) (s : ByteArray) (hs : s.size ≤ 1048576) (J Jx : List Run → World → Prop)
    (hY : ∀ pre x W, J pre W → pre.length < s.size → YieldAt Fence.wide (n - 1) Try.prog l (encs x) W fun e W' =>
      (e = .returned (.bool true) ∧ J (pre ++ [x]) W' ∧ True) ∨ (e = .returned (.bool false) ∧ Jx (pre ++ [x]) W'))
    (W : World) (hB : W.cell? ⟨B, 0, none⟩ = some (.string s)) (h0 : J [] W) (hJd : ∀ pre A k, J pre A → J pre (A.drewN k)) :
    CallsIn Fence.wide n Try.prog 22 #[.func (.yield l) #[] #[], .pointer (some ⟨B, 0, none⟩)] W fun e W' => (∃ v, e = .returned v) ∧
      ((∃ ys : List Run, ys.map told = RunsOf (D s 0) ∧ J ys W') ∨ (∃ pre : List Run, True ∧ Jx pre W')) := by
  have HY : Hid (∀ pre x W, J pre W → pre.length < s.size → YieldAt Fence.wide (n - 1) Try.prog l (encs x) W fun e W' =>
      (e = .returned (.bool true) ∧ J (pre ++ [x]) W' ∧ True) ∨ (e = .returned (.bool false) ∧ Jx (pre ++ [x]) W')) := hY
  have HJd : Hid (∀ pre A k, J pre A → J pre (A.drewN k)) := hJd
  clear hY hJd
  refine callsIn_of_wp Try.func22 rfl trivial ?_ rfl
  simp only [Try.ntmps22, List.size_toArray, List.length_cons, List.length_nil, Nat.reduceAdd, Nat.reduceSub, Array.replicate_succ, Array.replicate_zero, List.push_toArray, List.append_toArray, List.nil_append, List.cons_append]
  gi_wp2
  gi_loopw [3] (fun v wr => ∃ (pre : List Run) (k : Nat) (t : ByteArray), v = .string t ∧ k ≤ s.size ∧ pre.length ≤ k ∧ Hid (t.size = s.size - k) ∧ Hid (t = s.extract k s.size) ∧ Hid (pre.map told ++ RunsOf (D s k) = RunsOf (D s 0)) ∧ Hid (J pre wr)) (fun v _ => vsize v)
  case atStart => exact ⟨[], 0, s, rfl, Nat.zero_le _, Nat.le_refl _, (Nat.sub_zero _).symm, (ext_self s).symm, rfl, h0⟩
  case round =>
    obtain ⟨pre, k, t, rfl, hk, hp, htz, ht, hruns, hJ⟩ := hrel
    have hts : t.size ≤ 1048576 := by have := htz.out; omega
    by_cases hz : t.size = 0
    · have y1 := empty_yes hz
      have HF : Hid (pre.map told = RunsOf (D s 0)) := by
        have := hruns.out
        rw [show D s k = [] from List.eq_nil_of_length_eq_zero (by have := htz.out; rw [D_len]; omega), RunsOf_nil, List.append_nil] at this
        exact this
      gi_wp2
      go_end0
      exact ⟨⟨_, rfl⟩, .inl ⟨pre, HF.out, hJ.out⟩⟩
    · have y1 := empty_no hz
      have hlt : k < s.size := by have := htz.out; omega
      have ca := fun w => alike_any t w (by omega)
      have co := fun w => others_any t w (by omega)
      rw [show D t 0 = D s k by rw [ht.out, D_ext]] at ca co
      have hm := many_pos (D_ne hlt)
      have h8 := many_le (D s k)
      have hml := many_len (D s k)
      rw [D_len] at hml
      by_cases h3 : 3 ≤ run (D s k)
      · have em : many (D s k) = run (D s k) := by unfold many alike; rw [if_pos (decide_eq_true h3)]
        have eb : alike (D s k) = true := decide_eq_true h3
        rw [em] at hm h8 hml
        have MORE : Hid (∀ x : Run, x.1 = (t.extract 0 (run (D s k)), true) → (pre ++ [x]).map told ++ RunsOf (D s (k + run (D s k))) = RunsOf (D s 0)) := fun x hx => more x hlt ht.out hx em eb hruns.out
        have EXT : Hid (t.extract (run (D s k)) t.size = s.extract (k + run (D s k)) s.size) := ext_ext s k _ t ht.out
        clear em eb co
        generalize run (D s k) = r at *
        have d3 : (3 : Int) ≤ (r : Int) := by omega
        have k1 : (r : Int) ≤ (t.size : Int) := by have := htz.out; omega
        have zx : 1 ≤ (t.extract 0 r).size ∧ (t.extract 0 r).size ≤ 128 ∧ (true = true → 3 ≤ (t.extract 0 r).size) := by have := htz.out; rw [ByteArray.size_extract]; omega
        gi_wp2_with (refine ⟨trivial, ?_⟩; gi_at_call 23; refine (callsIn_wide.2 (ca _)).mono ?_; rintro e w1 ⟨rfl, n1, hn1⟩; have hJ1 : Hid (J pre w1) := (by rw [hn1]; exact HJd.out _ _ _ hJ.out); clear hn1; obtain ⟨fn, tmps, assign, body, hy, hR⟩ := HY.out pre ⟨(t.extract 0 r, true), zx⟩ w1 hJ1.out (by omega); dsimp only [encs] at hy)
        refine hR.mono ?_
        rintro e W3 (⟨rfl, hJ3, _⟩ | ⟨rfl, hJx3⟩)
        · have HJ3 : Hid (J _ W3) := hJ3
          clear hJ3
          gi_wp2
          go_roundw
          case rel => exact ⟨_, k + r, _, rfl, by omega, by simp; omega, by have := htz.out; show _ = _; rw [ByteArray.size_extract]; omega, EXT.out, MORE.out _ rfl, HJ3.out⟩
          case measure => show (t.extract r t.size).size < t.size; rw [ByteArray.size_extract]; omega
        · gi_wp2
          refine bodyPost_ret (results_none rfl _ _ _) rfl ?_
          exact ⟨⟨_, rfl⟩, .inr ⟨_, trivial, hJx3⟩⟩
      · have em : many (D s k) = oth 128 (D s k) := by unfold many alike; rw [if_neg (by simp; omega)]
        have eb : alike (D s k) = false := decide_eq_false h3
        rw [em] at hm h8 hml
        have MORE : Hid (∀ x : Run, x.1 = (t.extract 0 (oth 128 (D s k)), false) → (pre ++ [x]).map told ++ RunsOf (D s (k + oth 128 (D s k))) = RunsOf (D s 0)) := fun x hx => more x hlt ht.out hx em eb hruns.out
        have EXT : Hid (t.extract (oth 128 (D s k)) t.size = s.extract (k + oth 128 (D s k)) s.size) := ext_ext s k _ t ht.out
        clear em eb
        generalize run (D s k) = q at *
        generalize oth 128 (D s k) = r at *
        have d3 : ¬ (3 : Int) ≤ (q : Int) := by omega
        have d3' : decide ((3 : Int) ≤ (q : Int)) = false := decide_eq_false d3
        have k1 : (r : Int) ≤ (t.size : Int) := by have := htz.out; omega
        have zx : 1 ≤ (t.extract 0 r).size ∧ (t.extract 0 r).size ≤ 128 ∧ (false = true → 3 ≤ (t.extract 0 r).size) := by have := htz.out; rw [ByteArray.size_extract]; exact ⟨by omega, by omega, fun h => by cases h⟩
        gi_wp2_with first
          | (refine ⟨trivial, ?_⟩; gi_at_call 23; refine (callsIn_wide.2 (ca _)).mono ?_; rintro e w1 ⟨rfl, n1, hn1⟩; have hJ1 : Hid (J pre w1) := (by rw [hn1]; exact HJd.out _ _ _ hJ.out); clear hn1)
          | (refine ⟨trivial, ?_⟩; gi_at_call 24; refine (callsIn_wide.2 (co _)).mono ?_; rintro e w2 ⟨rfl, n2, hn2⟩; have hJ2 : Hid (J pre w2) := (by rw [hn2]; exact HJd.out _ _ _ hJ1.out); clear hn2; obtain ⟨fn, tmps, assign, body, hy, hR⟩ := HY.out pre ⟨(t.extract 0 r, false), zx⟩ w2 hJ2.out (by omega); dsimp only [encs] at hy)
        refine hR.mono ?_
        rintro e W3 (⟨rfl, hJ3, _⟩ | ⟨rfl, hJx3⟩)
        · have HJ3 : Hid (J _ W3) := hJ3
          clear hJ3
          gi_wp2
          go_roundw
          case rel => exact ⟨_, k + r, _, rfl, by omega, by simp; omega, by have := htz.out; show _ = _; rw [ByteArray.size_extract]; omega, EXT.out, MORE.out _ rfl, HJ3.out⟩
          case measure => show (t.extract r t.size).size < t.size; rw [ByteArray.size_extract]; omega
        · gi_wp2
          refine bodyPost_ret (results_none rfl _ _ _) rfl ?_
          exact ⟨⟨_, rfl⟩, .inr ⟨_, trivial, hJx3⟩⟩
theorem runs_stops (n : Nat) (hn : 1 ≤ n) (B : Nat) (s : ByteArray) (hs : s.size ≤ 1048576) (w : World) (hB : w.cell? ⟨B, 0, none⟩ = some (.string s)) (hlt : B < w.heap.size) :
    SeqStopsK Fence.wide n Try.prog 22 #[.pointer (some ⟨B, 0, none⟩)] encs (fun _ _ => True) (fun ys => ys.map told = RunsOf (D s 0)) (fun _ => True) s.size w := fun l J Jx W hW hJ _ hY h0 =>
  iter_in n hn l B s hs J Jx hY W ((hW.cell (p := ⟨B, 0, none⟩) hlt).trans hB) h0 (fun pre A k h => hJ pre A _ none h (grow_drewN A k) (fun r e => by cases e))
end Go.Proofs.Ytbffchfadockmaa.Pakj
