/-
  Contracts of ours for impl.piecesIn and its iterator, at every text.
-/
import Derived.RangeFuncNested
import Derived.RangeFuncBound
import Derived.RangeFuncCalls
import Derived.RangeFuncLeaves
import Derived.RangeFuncBox
import Derived.Shelf.Abstract
import Derived.Shelf.RegionOpen
import Derived.WalkKit
import Derived.OwnWalkIn
import Derived.TacticsInMore
import Derived.LoopNIn
import Derived.LoopIn
import Derived.Maps.AppendAt
import Derived.Test.YtbfjalpkdgepnaaAppi
namespace Go.Proofs.Ytbfjalpkdgepnaa.Appj
open Go.ChangeShapes Go.WideShapes Go.ChangeAt Go.RowKit Go.Deep Go.Shelf
open Appn Appp Apps Appi
set_option linter.unusedVariables false
set_option maxRecDepth 100000
attribute [local go_sem] Oper.semAt_some

def vsize : Value → Nat
  | .string s => s.size
  | _ => 0
theorem grow_drewN (w : World) (n : Nat) : w.grownBy (w.drewN n) none := ⟨rfl, rfl, rfl, Nat.le_refl _, fun _ _ _ => rfl⟩
theorem empty_yes {s : ByteArray} (h : s.size = 0) : s.toList.isEmpty = true := by
  rw [ByteArray.toList_eq, List.isEmpty_iff, ← List.length_eq_zero_iff, Array.length_toList]; exact h
theorem empty_no {s : ByteArray} (h : ¬ s.size = 0) : s.toList.isEmpty = false := by
  rw [Bool.eq_false_iff, Ne, ByteArray.toList_eq, List.isEmpty_iff, ← List.length_eq_zero_iff, Array.length_toList]; exact h
abbrev Part := { p : Nat × ByteArray // p.1 < 16777216 ∧ p.2.size ≤ 65535 }
def encs (x : Part) : Array Value := #[.int .i64 x.1.1, .string x.1.2]
def told (x : Part) : Nat × List UInt8 := (x.1.1, L x.1.2)
set_option maxHeartbeats 1000000 in
theorem runs_in (s : ByteArray) (w : World) :
    CallsIn Fence.wide 5 Try.prog 21 #[.string s] w fun e w' => e = .returned (.func (.func 32) #[] #[.pointer (some ⟨w.heap.size, 0, none⟩)]) ∧ w' = w.alloc (.cells #[.string s] 9) := by
  refine callsIn_of_wp Try.func21 rfl trivial ?_ rfl
  simp only [Try.ntmps21, List.size_toArray, List.length_cons, List.length_nil, Nat.reduceAdd, Nat.reduceSub, Array.replicate_succ, Array.replicate_zero, List.push_toArray, List.append_toArray, List.nil_append, List.cons_append]
  gi_wp2
  go_ret
  exact ⟨rfl, rfl⟩
set_option maxHeartbeats 1000000 in
theorem iter_in (n : Nat) (hn : 1 ≤ n) (l B : Nat) (s : ByteArray) (hs : s.size ≤ 1048576) (J Jx : List Part → World → Prop)
    (hY : ∀ pre x W, J pre W → pre.length < s.size → YieldAt Fence.wide (n - 1) Try.prog l (encs x) W fun e W' =>
      (e = .returned (.bool true) ∧ J (pre ++ [x]) W' ∧ True) ∨ (e = .returned (.bool false) ∧ Jx (pre ++ [x]) W'))
    (W : World) (hB : W.cell? ⟨B, 0, none⟩ = some (.string s)) (h0 : J [] W) (hJd : ∀ pre A k, J pre A → J pre (A.drewN k)) :
    CallsIn Fence.wide n Try.prog 32 #[.func (.yield l) #[] #[], .pointer (some ⟨B, 0, none⟩)] W fun e W' => (∃ v, e = .returned v) ∧
      ((∃ ys : List Part, ys.map told = PcsOf (L s) ∧ J ys W') ∨ (∃ pre : List Part, (∃ rest, pre.map told ++ rest = PcsOf (L s)) ∧ Jx pre W')) := by
  have HY : Hid (∀ pre x W, J pre W → pre.length < s.size → YieldAt Fence.wide (n - 1) Try.prog l (encs x) W fun e W' =>
      (e = .returned (.bool true) ∧ J (pre ++ [x]) W' ∧ True) ∨ (e = .returned (.bool false) ∧ Jx (pre ++ [x]) W')) := hY
  have HJd : Hid (∀ pre A k, J pre A → J pre (A.drewN k)) := hJd
  clear hY hJd
  refine callsIn_of_wp Try.func32 rfl trivial ?_ rfl
  simp only [Try.ntmps32, List.size_toArray, List.length_cons, List.length_nil, Nat.reduceAdd, Nat.reduceSub, Array.replicate_succ, Array.replicate_zero, List.push_toArray, List.append_toArray, List.nil_append, List.cons_append]
  gi_wp2
  gi_loopw [3] (fun v wr => ∃ (pre : List Part) (t : ByteArray), v = .string t ∧ t.size ≤ 1048576 ∧ pre.length + t.size ≤ s.size ∧ Hid (pre.map told ++ PcsOf (L t) = PcsOf (L s)) ∧ Hid (J pre wr)) (fun v _ => vsize v)
  case atStart => exact ⟨[], s, rfl, hs, by simp, rfl, h0⟩
  case round =>
    obtain ⟨pre, t, rfl, hts, hp, hruns, hJ⟩ := hrel
    by_cases hz : t.size = 0
    · have y1 := empty_yes hz
      have HF : Hid (pre.map told = PcsOf (L s)) := by
        have := hruns.out
        rw [show L t = [] from List.eq_nil_of_length_eq_zero (by rw [L_len]; exact hz), PcsOf_nil, List.append_nil] at this
        exact this
      gi_wp2
      go_end0
      exact ⟨⟨_, rfl⟩, .inl ⟨pre, HF.out, hJ.out⟩⟩
    · have y1 := empty_no hz
      have hne : L t ≠ [] := fun h => by have := L_len t; rw [h] at this; simp at this; omega
      have ca := fun w => ahead_any t w hts
      have MORE : Hid (∀ (x : Part) (t' : ByteArray), x.1.1 = (nextP (L t)).1 → L x.1.2 = (nextP (L t)).2.1 → L t' = (nextP (L t)).2.2 → (pre ++ [x]).map told ++ PcsOf (L t') = PcsOf (L s) ∧ t'.size < t.size) := fun x t' h1 h2 h3 => by
        refine ⟨?_, ?_⟩
        · have := hruns.out
          rw [PcsOf_cons hne, ← h1, ← h2, ← h3] at this
          rw [← this]
          simp [told]
        · have := nextP_lt hne
          rw [← h3, L_len, L_len] at this
          exact this
      clear hruns hne
      gi_wp2_with (refine ⟨trivial, ?_⟩; gi_at_call 33; refine (callsIn_wide.2 (ca _)).mono ?_; rintro e w1 ⟨⟨d, m, t', rfl, hd, hm, ht, hd8, hm8, _⟩, n1, hn1⟩; have hJ1 : Hid (J pre w1) := (by rw [hn1]; exact HJd.out _ _ _ hJ.out); obtain ⟨hm1, hm2⟩ := MORE.out ⟨(d, m), hd8, hm8⟩ t' hd hm ht; have HM : Hid _ := hm1; clear hn1 hm1 hd hm ht MORE hJ; obtain ⟨fn, tmps, assign, body, hy, hR⟩ := HY.out pre ⟨(d, m), hd8, hm8⟩ w1 hJ1.out (by omega); dsimp only [encs] at hy)
      refine hR.mono ?_
      rintro e W3 (⟨rfl, hJ3, _⟩ | ⟨rfl, hJx3⟩)
      · have HJ3 : Hid (J _ W3) := hJ3
        clear hJ3
        gi_wp2
        go_roundw
        case rel => exact ⟨_, _, rfl, by omega, by simp; omega, HM.out, HJ3.out⟩
        case measure => exact hm2
      · gi_wp2
        refine bodyPost_ret (results_none rfl _ _ _) rfl ?_
        exact ⟨⟨_, rfl⟩, .inr ⟨_, ⟨_, HM.out⟩, hJx3⟩⟩
theorem runs_stops (n : Nat) (hn : 1 ≤ n) (B : Nat) (s : ByteArray) (hs : s.size ≤ 1048576) (w : World) (hB : w.cell? ⟨B, 0, none⟩ = some (.string s)) (hlt : B < w.heap.size) :
    SeqStopsK Fence.wide n Try.prog 32 #[.pointer (some ⟨B, 0, none⟩)] encs (fun _ _ => True) (fun ys => ys.map told = PcsOf (L s)) (fun pre => ∃ rest, pre.map told ++ rest = PcsOf (L s)) s.size w := fun l J Jx W hW hJ _ hY h0 =>
  iter_in n hn l B s hs J Jx hY W ((hW.cell (p := ⟨B, 0, none⟩) hlt).trans hB) h0 (fun pre A k h => hJ pre A _ none h (grow_drewN A k) (fun r e => by cases e))
end Go.Proofs.Ytbfjalpkdgepnaa.Appj
