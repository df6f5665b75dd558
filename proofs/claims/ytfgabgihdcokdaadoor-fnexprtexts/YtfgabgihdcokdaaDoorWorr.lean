/-
  Words: what stands ahead of the first blank and behind it; a text's words, as strings.Split tells them; contracts of ours for spec.l1Cut at the blank, impl.ExprOk.
-/
import Derived.Test.YtfgabgihdcokdaaDoorNodj
import Derived.Test.YtfgabgihdcokdaaDoorNodm
import Derived.Lib.SplitLaws
import Derived.Lib.IndexBytes
import Derived.Lib.IndexLaws
import Derived.Laws.Strings3
namespace Go.Proofs.YtfgabgihdcokdaaDoor.Worr
open Go.ChangeShapes Go.WideShapes Go.ChangeAt Go.RowKit Go.Deep
open Optx Extx Exts Nodi
set_option linter.unusedVariables false
set_option maxRecDepth 20000
abbrev sp : ByteArray := ⟨#[32]⟩
def ix (s : ByteArray) : Int := Lib.indexB s sp
def A (s : ByteArray) : ByteArray := if ix s = -1 then s else s.extract 0 (ix s).toNat
def B (s : ByteArray) : ByteArray := if ix s = -1 then ⟨#[]⟩ else s.extract ((ix s).toNat + 1) s.size
def F (s : ByteArray) : Bool := decide (ix s ≠ -1)
def W (s : ByteArray) : List ByteArray := Lib.splitB sp 0 (Lib.countB s sp) s
theorem A_le (s : ByteArray) : (A s).size ≤ s.size := by
  unfold A; split
  · exact Nat.le_refl _
  · rw [ByteArray.size_extract]; omega
theorem ix_cases (s : ByteArray) : ix s = -1 ∨ ∃ i : Nat, ix s = i ∧ i + 1 ≤ s.size := Lib.indexB_cases s sp
theorem B_lt {s : ByteArray} (h : F s = true) : (B s).size < s.size := by
  have h := of_decide_eq_true h
  unfold B
  rw [if_neg h, ByteArray.size_extract]
  rcases ix_cases s with h' | ⟨i, hi, hr⟩
  · exact absurd h' h
  · omega
theorem B_le (s : ByteArray) : (B s).size ≤ s.size := by
  unfold B; split
  · exact Nat.zero_le _
  · rw [ByteArray.size_extract]; omega
theorem W_no {s : ByteArray} (h : F s = false) : W s = [A s] := by
  have h : ix s = -1 := Decidable.of_not_not (of_decide_eq_false h)
  unfold W A
  rw [if_pos h]
  exact Lib.splitB_miss _ _ _ _ h
theorem W_on {s : ByteArray} (h : F s = true) : W s = A s :: W (B s) := by
  have h := of_decide_eq_true h
  rcases ix_cases s with h' | ⟨i, hi, hr⟩
  · exact absurd h' h
  · unfold A B
    rw [if_neg h, if_neg h]
    conv => lhs; unfold W
    rw [Lib.countB_hit s sp i (by decide) hi, Nat.add_comm, Lib.splitB_hit sp 0 _ s i hi, hi]
    rfl
theorem at_list (s : ByteArray) (j : Nat) (h : j < s.size) : s.data.toList[j]? = some s[j] := by
  rw [List.getElem?_eq_getElem (by rw [Array.length_toList]; exact h), Array.getElem_toList]; rfl
theorem ix_some {s : ByteArray} {i : Nat} (h : ix s = i) : s.data.toList[i]? = some 32 ∧ ∀ k : Nat, k < i → s.data.toList[k]? ≠ some 32 := by
  have h : Lib.index s.data.toList [32] = i := h
  rw [Lib.index_one] at h
  exact Lib.indexByte_some h
theorem ix_none {s : ByteArray} (h : ix s = -1) : ∀ k : Nat, s.data.toList[k]? ≠ some 32 := by
  have h : Lib.index s.data.toList [32] = -1 := h
  rw [Lib.index_one] at h
  exact Lib.indexByte_none h
theorem cut_here {s : ByteArray} {k : Nat} (hk : k < s.size) (hn : ∀ j (h : j < s.size), j < k → s[j] ≠ 32) (h10 : s[k] = 32) : A s = s.extract 0 k ∧ B s = s.extract (k + 1) s.size ∧ F s = true := by
  have hh : s.data.toList[k]? = some 32 := by rw [at_list s k hk, h10]
  have e : ix s = k := by
    rcases ix_cases s with h' | ⟨i, hi, hr⟩
    · exact absurd hh (ix_none h' k)
    · obtain ⟨h1, h2⟩ := ix_some hi
      have : ¬ k < i := fun h => h2 k h hh
      have : ¬ i < k := fun h => by
        rw [at_list s i (by omega)] at h1
        exact hn i (by omega) h (Option.some.inj h1)
      rw [hi]; omega
  have ne : ¬ ix s = -1 := by rw [e]; omega
  refine ⟨?_, ?_, decide_eq_true ne⟩
  · unfold A; rw [if_neg ne, e]; rfl
  · unfold B; rw [if_neg ne, e]; rfl
theorem cut_end {s : ByteArray} (hn : ∀ j (h : j < s.size), s[j] ≠ 32) : A s = s ∧ B s = ⟨#[]⟩ ∧ F s = false := by
  have e : ix s = -1 := by
    rcases ix_cases s with h' | ⟨i, hi, hr⟩
    · exact h'
    · have h1 := (ix_some hi).1
      rw [at_list s i (by omega)] at h1
      exact absurd (Option.some.inj h1) (hn i (by omega))
  refine ⟨?_, ?_, decide_eq_false (fun h => h e)⟩
  · unfold A; rw [if_pos e]
  · unfold B; rw [if_pos e]
theorem slice_to (s : ByteArray) (k : Nat) (h : k < s.size) (w : World) : (Instr.slice 9 (.string s) none (some (.int .i64 (k : Int))) none).run Tryd.prog w = .ok (.string (s.extract 0 k)) w := by
  have := run_slice_string_h (P := Tryd.prog) (w := w) (t := 9) (s := s) Tryd.underlying9 .i64 (k : Int) (by omega) (by omega)
  rw [Int.toNat_natCast] at this
  exact this
theorem slice_from (s : ByteArray) (k : Nat) (h : k < s.size) (w : World) : (Instr.slice 9 (.string s) (some (.int .i64 ((k : Int) + 1))) none none).run Tryd.prog w = .ok (.string (s.extract (k + 1) s.size)) w := by
  have := run_slice_string_l (P := Tryd.prog) (w := w) (t := 9) (s := s) Tryd.underlying9 .i64 ((k : Int) + 1) (by omega) (by omega)
  rw [show ((k : Int) + 1).toNat = k + 1 by omega] at this
  exact this
theorem ret3 {v u : Value} (h : v = u) : Ending.returned v = .returned u := by rw [h]
theorem cut_tuple {s : ByteArray} {k : Nat} (h : A s = s.extract 0 k ∧ B s = s.extract (k + 1) s.size ∧ F s = true) : (Value.tuple #[.string (s.extract 0 k), .string (s.extract (k + 1) s.size), .bool true]) = .tuple #[.string (A s), .string (B s), .bool (F s)] := by
  rw [h.1, h.2.1, h.2.2]
theorem cut_tuple0 {s : ByteArray} (h : A s = s ∧ B s = ⟨#[]⟩ ∧ F s = false) : (Value.tuple #[.string s, .string ⟨#[]⟩, .bool false]) = .tuple #[.string (A s), .string (B s), .bool (F s)] := by
  rw [h.1, h.2.1, h.2.2]
theorem blank {c : UInt8} : (c.toNat : Int) = 32 ↔ c = 32 := by
  constructor
  · intro h
    apply UInt8.toNat_inj.1
    show c.toNat = 32
    omega
  · rintro rfl; rfl
set_option maxHeartbeats 1000000 in
theorem l1Cut_any (s : ByteArray) (w : World) (hs : s.size ≤ 1048576) :
    Calls Tryd.prog 35 #[.string s, .int .u8 32] w fun e w' => e = .returned (.tuple #[.string (A s), .string (B s), .bool (F s)]) ∧ ∃ n, w' = w.drewN n := by
  go_enter Tryd.func35, Tryd.ntmps35
  go_wp2
  go_loop [7] (fun i => ∃ (k : Nat), k ≤ s.size ∧ i = .int .i64 k ∧ Hid (∀ j (h : j < s.size), j < k → s[j] ≠ 32)) (fun i => s.size - (intOf i).toNat)
  case atStart => exact ⟨0, Nat.zero_le _, rfl, fun j _ h => absurd h (Nat.not_lt_zero _)⟩
  case round =>
    obtain ⟨k, hk, rfl, hr⟩ := hrel
    by_cases hlt : k < s.size
    · by_cases hc : s[k] = 32
      · have HT := (show Hid _ from cut_tuple (cut_here hlt hr.out hc))
        have hc : (s[k].toNat : Int) = 32 := blank.2 hc
        have s1 := slice_to s k hlt
        have s2 := slice_from s k hlt
        have k0 : (0 : Int) ≤ (k : Int) := by omega
        have k1 : (k : Int) ≤ (s.size : Int) := by omega
        have k2 : (0 : Int) ≤ (k : Int) + 1 := by omega
        have k3 : (k : Int) + 1 ≤ (s.size : Int) := by omega
        have k4 : IntKind.i64.wrap ((k : Int) + 1) = (k : Int) + 1 := by rw [IntKind.wrap_i64]; omega
        have k5 : ((k : Int) + 1).toNat = k + 1 := by omega
        clear hr
        go_wp2_with fail
        go_quiet (fail)
        go_wp2
        go_ret3
        exact ⟨ret3 HT.out, _, rfl⟩
      · have HR : Hid (∀ j (h : j < s.size), j < k + 1 → s[j] ≠ 32) := fun j h hj => by
          rcases Nat.lt_or_ge j k with h' | h'
          · exact hr.out j h h'
          · have e : j = k := by omega
            subst e; exact hc
        have hc : ¬ (s[k].toNat : Int) = 32 := fun h => hc (blank.1 h)
        clear hr
        go_wp2
        go_round
        case rel => exact ⟨k + 1, by omega, by go_num, HR.out⟩
        case measure => simp [intOf]; omega
    · have HT := (show Hid _ from cut_tuple0 (cut_end fun j h => hr.out j h (by omega)))
      clear hr
      go_wp2
      go_ret3
      exact ⟨ret3 HT.out, 0, rfl⟩
theorem implOk_any (a : Option Addr) (cap : Nat) (L : List Stepx.Node) (w : World) (hN : Stepx.Nodes w a L) (hlen : L.length ≤ 1048576) :
    Calls Tryd.prog 11 #[.slice a L.length cap] w fun e w' => e = .returned (.bool (Stepx.exprB L)) ∧ Below w.heap.size w w' := by
  have cs := Stepx.stepsOf_any a cap L w hN hlen
  generalize Stepx.exprB L = b at cs ⊢
  go_enter Tryd.func11, Tryd.ntmps11
  go_wp2_with (go_at_call 23; refine cs.mono ?_; rintro e w1 ⟨⟨v, rfl, hv⟩, hb⟩)
  go_ret
  exact ⟨rfl, hb⟩
end Go.Proofs.YtfgabgihdcokdaaDoor.Worr
