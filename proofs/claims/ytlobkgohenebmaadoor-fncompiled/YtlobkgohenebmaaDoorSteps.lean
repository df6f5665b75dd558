/-
  Contracts of ours for impl.stepOf and impl.stepsOf: of what nodes steps come, and how many values they leave.
-/
import Derived.Test.YtlobkgohenebmaaDoorNames
import Derived.Deep.QuietTactic
import Derived.BigQuiet
namespace Go.Proofs.YtlobkgohenebmaaDoor.Steps
open Go.ChangeShapes Go.WideShapes Go.ChangeAt Go.RowKit
open Names (nameB)

def inB (n low high : Int) : Bool := decide (low ≤ n ∧ n ≤ high)
theorem isWord_any (n : Int) (w : World) :
    Calls Tryd.prog 55 #[.int .i64 n] w fun e w' => e = .returned (.bool (inB n 0 65535)) ∧ w' = w := by
  go_enter Tryd.func55, Tryd.ntmps55
  go_wp2
  all_goals go_ret
  all_goals exact ⟨Names.ret_bool (by rw [Bool.eq_iff_iff]; simp [inB]; try omega), rfl⟩

/-- A right node. -/
def nodeB (k n : Int) (s : ByteArray) : Bool :=
  if k = 1 then inB n 0 65535 && s.toList.isEmpty
  else if k = 2 ∨ k = 3 then n == 0 && nameB s
  else if 4 ≤ k ∧ k ≤ 17 then n == 0 && s.toList.isEmpty
  else false
/-- What a node becomes. -/
def stepV (k n : Int) (s : ByteArray) : Value :=
  if k = 1 then .iface 85 (.agg #[.int .i64 n])
  else if k = 2 then .iface 87 (.agg #[.string s])
  else if k = 3 then .iface 90 (.agg #[.string s])
  else if 4 ≤ k ∧ k ≤ 7 then .iface 92 (.agg #[.int .i64 k])
  else if 8 ≤ k ∧ k ≤ 17 then .iface 94 (.agg #[.int .i64 k])
  else .nilIface

set_option maxHeartbeats 1000000 in
theorem step1 (n : Int) (s : ByteArray) (w : World) (b : Bool) (hb : inB n 0 65535 = b) :
    Calls Tryd.prog 41 #[.agg #[.int .i64 1, .int .i64 n, .string s]] w fun e w' => e = .returned (.tuple #[.iface 85 (.agg #[.int .i64 n]), .bool (b && s.toList.isEmpty)]) ∧ Below w.heap.size w w' := by
  have c := fun w => isWord_any n w
  rw [hb] at c
  clear hb
  cases b with
  | true =>
    go_enter Tryd.func41, Tryd.ntmps41
    go_wp2
    go_quiet ((go_at_call 55; exact Calls.quiet_of_same (c _)))
    go_wp2
    go_ret2
    exact ⟨rfl, below_drewN ((Below.refl _ _).alloc (Nat.le_refl _) _) _⟩
  | false =>
    go_enter Tryd.func41, Tryd.ntmps41
    go_wp2
    go_quiet ((go_at_call 55; exact Calls.quiet_of_same (c _)))
    go_wp2
    go_ret2
    exact ⟨rfl, below_drewN ((Below.refl _ _).alloc (Nat.le_refl _) _) _⟩

set_option maxHeartbeats 1000000 in
theorem step2 (n : Int) (s : ByteArray) (w : World) (hs : s.size ≤ maxLen) (b : Bool) (hb : (n == 0) = b) :
    Calls Tryd.prog 41 #[.agg #[.int .i64 2, .int .i64 n, .string s]] w fun e w' => e = .returned (.tuple #[.iface 87 (.agg #[.string s]), .bool (b && nameB s)]) ∧ Below w.heap.size w w' := by
  have c := fun w => Names.implName_any s w hs
  clear hs
  cases b with
  | true =>
    go_enter Tryd.func41, Tryd.ntmps41
    go_wp2
    go_quiet ((go_at_call 56; exact Calls.quiet_of_same (c _)))
    go_wp2
    go_ret2
    exact ⟨rfl, below_drewN ((Below.refl _ _).alloc (Nat.le_refl _) _) _⟩
  | false =>
    go_enter Tryd.func41, Tryd.ntmps41
    go_wp2
    go_quiet ((go_at_call 56; exact Calls.quiet_of_same (c _)))
    go_wp2
    go_ret2
    exact ⟨rfl, below_drewN ((Below.refl _ _).alloc (Nat.le_refl _) _) _⟩

set_option maxHeartbeats 1000000 in
theorem step3 (n : Int) (s : ByteArray) (w : World) (hs : s.size ≤ maxLen) (b : Bool) (hb : (n == 0) = b) :
    Calls Tryd.prog 41 #[.agg #[.int .i64 3, .int .i64 n, .string s]] w fun e w' => e = .returned (.tuple #[.iface 90 (.agg #[.string s]), .bool (b && nameB s)]) ∧ Below w.heap.size w w' := by
  have c := fun w => Names.implName_any s w hs
  clear hs
  cases b with
  | true =>
    go_enter Tryd.func41, Tryd.ntmps41
    go_wp2
    go_quiet ((go_at_call 56; exact Calls.quiet_of_same (c _)))
    go_wp2
    go_ret2
    exact ⟨rfl, below_drewN ((Below.refl _ _).alloc (Nat.le_refl _) _) _⟩
  | false =>
    go_enter Tryd.func41, Tryd.ntmps41
    go_wp2
    go_quiet ((go_at_call 56; exact Calls.quiet_of_same (c _)))
    go_wp2
    go_ret2
    exact ⟨rfl, below_drewN ((Below.refl _ _).alloc (Nat.le_refl _) _) _⟩

set_option maxHeartbeats 1000000 in
theorem stepOne (k n : Int) (s : ByteArray) (w : World) (k0 : 4 ≤ k) (k1 : k ≤ 7) (b : Bool) (hb : (n == 0) = b) :
    Calls Tryd.prog 41 #[.agg #[.int .i64 k, .int .i64 n, .string s]] w fun e w' => e = .returned (.tuple #[.iface 92 (.agg #[.int .i64 k]), .bool (b && s.toList.isEmpty)]) ∧ Below w.heap.size w w' := by
  have e1 : (k == 1) = false := by simp; omega
  have e2 : (k == 2) = false := by simp; omega
  have e3 : (k == 3) = false := by simp; omega
  have d7 : decide (k ≤ 7) = true := by simp; omega
  have d17 : decide (k ≤ 17) = true := by simp; omega
  cases b with
  | true =>
    go_enter Tryd.func41, Tryd.ntmps41
    go_wp2
    go_quiet (fail)
    go_wp2
    go_ret2
    exact ⟨rfl, below_drewN ((Below.refl _ _).alloc (Nat.le_refl _) _) _⟩
  | false =>
    go_enter Tryd.func41, Tryd.ntmps41
    go_wp2
    go_quiet (fail)
    go_wp2
    go_ret2
    exact ⟨rfl, below_drewN ((Below.refl _ _).alloc (Nat.le_refl _) _) _⟩

set_option maxHeartbeats 1000000 in
theorem stepTwo (k n : Int) (s : ByteArray) (w : World) (k0 : 8 ≤ k) (k1 : k ≤ 17) (b : Bool) (hb : (n == 0) = b) :
    Calls Tryd.prog 41 #[.agg #[.int .i64 k, .int .i64 n, .string s]] w fun e w' => e = .returned (.tuple #[.iface 94 (.agg #[.int .i64 k]), .bool (b && s.toList.isEmpty)]) ∧ Below w.heap.size w w' := by
  have e1 : (k == 1) = false := by simp; omega
  have e2 : (k == 2) = false := by simp; omega
  have e3 : (k == 3) = false := by simp; omega
  have d7 : decide (k ≤ 7) = false := by simp; omega
  have d17 : decide (k ≤ 17) = true := by simp; omega
  cases b with
  | true =>
    go_enter Tryd.func41, Tryd.ntmps41
    go_wp2
    go_quiet (fail)
    go_wp2
    go_ret2
    exact ⟨rfl, below_drewN ((Below.refl _ _).alloc (Nat.le_refl _) _) _⟩
  | false =>
    go_enter Tryd.func41, Tryd.ntmps41
    go_wp2
    go_quiet (fail)
    go_wp2
    go_ret2
    exact ⟨rfl, below_drewN ((Below.refl _ _).alloc (Nat.le_refl _) _) _⟩

set_option maxHeartbeats 1000000 in
theorem stepNone (k n : Int) (s : ByteArray) (w : World) (hk : k < 1 ∨ 17 < k) :
    Calls Tryd.prog 41 #[.agg #[.int .i64 k, .int .i64 n, .string s]] w fun e w' => e = .returned (.tuple #[.nilIface, .bool false]) ∧ Below w.heap.size w w' := by
  have e1 : (k == 1) = false := by simp; omega
  have e2 : (k == 2) = false := by simp; omega
  have e3 : (k == 3) = false := by simp; omega
  rcases hk with hk | hk
  · go_enter Tryd.func41, Tryd.ntmps41
    go_wp2
    go_ret2
    exact ⟨rfl, (Below.refl _ _).alloc (Nat.le_refl _) _⟩
  · have d7 : decide (k ≤ 7) = false := by simp; omega
    have d17 : decide (k ≤ 17) = false := by simp; omega
    go_enter Tryd.func41, Tryd.ntmps41
    go_wp2
    go_ret2
    exact ⟨rfl, (Below.refl _ _).alloc (Nat.le_refl _) _⟩

theorem stepOf_any (k n : Int) (s : ByteArray) (w : World) (hs : s.size ≤ maxLen) :
    Calls Tryd.prog 41 #[.agg #[.int .i64 k, .int .i64 n, .string s]] w fun e w' => e = .returned (.tuple #[stepV k n s, .bool (nodeB k n s)]) ∧ Below w.heap.size w w' := by
  unfold stepV nodeB
  by_cases h1 : k = 1
  · subst h1
    rw [if_pos rfl, if_pos rfl]
    exact step1 n s w _ rfl
  rw [if_neg h1, if_neg h1]
  by_cases h2 : k = 2
  · subst h2
    rw [if_pos rfl, if_pos (.inl rfl)]
    exact step2 n s w hs _ rfl
  rw [if_neg h2]
  by_cases h3 : k = 3
  · subst h3
    rw [if_pos rfl, if_pos (.inr rfl)]
    exact step3 n s w hs _ rfl
  rw [if_neg h3, if_neg (show ¬ (k = 2 ∨ k = 3) by omega)]
  by_cases h4 : 4 ≤ k ∧ k ≤ 7
  · rw [if_pos h4, if_pos (show 4 ≤ k ∧ k ≤ 17 by omega)]
    exact stepOne k n s w h4.1 h4.2 _ rfl
  rw [if_neg h4]
  by_cases h5 : 8 ≤ k ∧ k ≤ 17
  · rw [if_pos h5, if_pos (show 4 ≤ k ∧ k ≤ 17 by omega)]
    exact stepTwo k n s w h5.1 h5.2 _ rfl
  rw [if_neg h5, if_neg (show ¬ (4 ≤ k ∧ k ≤ 17) by omega)]
  exact stepNone k n s w (by omega)

end Go.Proofs.YtlobkgohenebmaaDoor.Steps
