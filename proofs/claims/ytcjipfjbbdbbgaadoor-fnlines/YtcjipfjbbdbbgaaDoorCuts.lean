/-
  Contracts of ours for what stands ahead of a sign and behind it: impl.parted, spec.l1Cut; and both ArgsOf.
-/
import Derived.Test.YtcjipfjbbdbbgaaDoorArgz
import Derived.Laws.Strings3
namespace Go.Proofs.YtcjipfjbbdbbgaaDoor.Cuts
open Go.ChangeShapes Go.WideShapes Go.ChangeAt Go.RowKit Go.Deep
set_option linter.unusedVariables false
open Txts (Texts)
open Fill (numAt numAt_of)
open Names (ret_bool empty_yes empty_no)
open Argz

/-- The place of the first c, from a place on; how many bytes there are where there is none. -/
def cutI (s : ByteArray) (c : Int) (k : Nat) : Nat := if k < s.size then (if (numAt s k : Int) = c then k else cutI s c (k + 1)) else s.size
termination_by s.size - k
decreasing_by omega
theorem cutI_end {s : ByteArray} {c : Int} {k : Nat} (h : ¬ k < s.size) : cutI s c k = s.size := by rw [cutI, if_neg h]
theorem cutI_here {s : ByteArray} {c : Int} {k : Nat} (h : k < s.size) (hc : (s[k].toNat : Int) = c) : cutI s c k = k := by rw [cutI, if_pos h, if_pos (by rw [numAt_of h]; exact hc)]
theorem cutI_next {s : ByteArray} {c : Int} {k : Nat} (h : k < s.size) (hc : ¬ (s[k].toNat : Int) = c) : cutI s c k = cutI s c (k + 1) := by rw [cutI, if_pos h, if_neg (by rw [numAt_of h]; exact hc)]
theorem cutI_le (s : ByteArray) (c : Int) (k : Nat) : cutI s c k ≤ s.size := by
  induction hn : s.size - k using Nat.strongRecOn generalizing k with
  | _ n ih =>
    rw [cutI]
    split
    · split
      · omega
      · exact ih _ (by omega) _ rfl
    · exact Nat.le_refl _
def cutF (s : ByteArray) (c : Int) : Bool := decide (cutI s c 0 < s.size)
def cutA (s : ByteArray) (c : Int) : ByteArray := if cutF s c = true then s.extract 0 (cutI s c 0) else s
def cutB (s : ByteArray) (c : Int) : ByteArray := if cutF s c = true then s.extract (cutI s c 0 + 1) s.size else ⟨#[]⟩
theorem cutA_le (s : ByteArray) (c : Int) : (cutA s c).size ≤ s.size := by
  unfold cutA; split
  · rw [ByteArray.size_extract]; omega
  · exact Nat.le_refl _
theorem cutB_lt {s : ByteArray} {c : Int} (h : cutF s c = true) : (cutB s c).size < s.size := by
  have := of_decide_eq_true (show decide _ = true from h)
  unfold cutB; rw [if_pos h, ByteArray.size_extract]; omega
theorem cut_tuple {s : ByteArray} {c : Int} {k : Nat} (hlt : k < s.size) (h : cutI s c 0 = k) : (Value.tuple #[.string (s.extract 0 k), .string (s.extract (k + 1) s.size), .bool true]) = .tuple #[.string (cutA s c), .string (cutB s c), .bool (cutF s c)] := by
  have hf : cutF s c = true := decide_eq_true (by omega)
  unfold cutA cutB; rw [hf, if_pos rfl, if_pos rfl, h]
theorem cut_none {s : ByteArray} {c : Int} (h : cutI s c 0 = s.size) : (Value.tuple #[.string s, .string ⟨#[]⟩, .bool false]) = .tuple #[.string (cutA s c), .string (cutB s c), .bool (cutF s c)] := by
  have hf : cutF s c = false := decide_eq_false (by omega)
  unfold cutA cutB; rw [hf]; rfl

theorem slice_to (s : ByteArray) (k : Nat) (h : k < s.size) (w : World) : (Instr.slice 9 (.string s) none (some (.int .i64 (k : Int))) none).run Tryd.prog w = .ok (.string (s.extract 0 k)) w := by
  have := run_slice_string_h (P := Tryd.prog) (w := w) (t := 9) (s := s) Tryd.underlying9 .i64 (k : Int) (by omega) (by omega)
  rw [Int.toNat_natCast] at this
  exact this
theorem slice_from (s : ByteArray) (k : Nat) (h : k < s.size) (w : World) : (Instr.slice 9 (.string s) (some (.int .i64 ((k : Int) + 1))) none none).run Tryd.prog w = .ok (.string (s.extract (k + 1) s.size)) w := by
  have := run_slice_string_l (P := Tryd.prog) (w := w) (t := 9) (s := s) Tryd.underlying9 .i64 ((k : Int) + 1) (by omega) (by omega)
  rw [show ((k : Int) + 1).toNat = k + 1 by omega] at this
  exact this

theorem ret3 {v u : Value} (h : v = u) : Ending.returned v = .returned u := by rw [h]

set_option maxHeartbeats 1000000 in
theorem l1Cut_any (s : ByteArray) (c : Int) (w : World) (hs : s.size ≤ 1048576) :
    Calls Tryd.prog 29 #[.string s, .int .u8 c] w fun e w' => e = .returned (.tuple #[.string (cutA s c), .string (cutB s c), .bool (cutF s c)]) ∧ ∃ n, w' = w.drewN n := by
  go_enter Tryd.func29, Tryd.ntmps29
  go_wp2
  go_loop [7] (fun i => ∃ (k : Nat), k ≤ s.size ∧ i = .int .i64 k ∧ Hid (cutI s c 0 = cutI s c k)) (fun i => s.size - (intOf i).toNat)
  case atStart => exact ⟨0, Nat.zero_le _, rfl, rfl⟩
  case round =>
    obtain ⟨k, hk, rfl, hr⟩ := hrel
    by_cases hlt : k < s.size
    · by_cases hc : (s[k].toNat : Int) = c
      · have HT := (show Hid _ from cut_tuple hlt (hr.out.trans (cutI_here hlt hc)))
        have s1 := slice_to s k hlt
        have s2 := slice_from s k hlt
        have k0 : (0 : Int) ≤ (k : Int) := by omega
        have k1 : (k : Int) ≤ (s.size : Int) := by omega
        have k2 : (0 : Int) ≤ (k : Int) + 1 := by omega
        have k3 : (k : Int) + 1 ≤ (s.size : Int) := by omega
        have k4 : IntKind.i64.wrap ((k : Int) + 1) = (k : Int) + 1 := by rw [IntKind.wrap_i64]; omega
        have k5 : ((k : Int) + 1).toNat = k + 1 := by omega
        clear hr
        subst hc
        go_wp2_with fail
        go_quiet (fail)
        go_wp2
        go_ret3
        exact ⟨ret3 HT.out, _, rfl⟩
      · have HR : Hid (cutI s c 0 = cutI s c (k + 1)) := hr.out.trans (cutI_next hlt hc)
        clear hr
        go_wp2
        go_round
        case rel => exact ⟨k + 1, by omega, by go_num, HR.out⟩
        case measure => simp [intOf]; omega
    · have HT := (show Hid _ from cut_none (hr.out.trans (cutI_end hlt)))
      clear hr
      go_wp2
      go_ret3
      exact ⟨ret3 HT.out, 0, rfl⟩

def JP (s : ByteArray) (c : Int) (w : World) (a' : Act) (w' : World) : Prop := w' = w ∧ ∃ k : Nat, k < s.size ∧ cutI s c 0 = k ∧ ∃ u1 u2 u3 u4 u5 u6 u8 u9 u10 u11 u12 u13 u14 u15 u16 u17 u18 u19 u20 u21 u22 u23 u24 u25 u26 : Value, a' = { tmps := #[.string s, u1, u2, u3, u4, u5, u6, .int .i64 (k : Int), u8, u9, u10, u11, u12, u13, u14, u15, u16, u17, u18, u19, u20, u21, u22, u23, u24, u25, u26], defers := [] }

set_option maxHeartbeats 1000000 in
theorem parted_any (s : ByteArray) (c : Int) (w : World) (hs : s.size ≤ 1048576) :
    Calls Tryd.prog 22 #[.string s, .int .u8 c] w fun e w' => e = .returned (.tuple #[.string (cutA s c), .string (cutB s c), .bool (cutF s c)]) ∧ ∃ n, w' = w.drewN n := by
  go_enter Tryd.func22, Tryd.ntmps22
  go_wp2
  refine wp_scope_jumps 0 (JP s c w) (fun _ _ => 0) rfl ?_ (by
    rintro a' w' ⟨rfl, k, hlt, hr, u1, u2, u3, u4, u5, u6, u8, u9, u10, u11, u12, u13, u14, u15, u16, u17, u18, u19, u20, u21, u22, u23, u24, u25, u26, rfl⟩
    have HT := (show Hid _ from cut_tuple hlt hr)
    clear hr
    have s1 := slice_to s k hlt
    have s2 := slice_from s k hlt
    have k0 : (0 : Int) ≤ (k : Int) := by omega
    have k1 : (k : Int) ≤ (s.size : Int) := by omega
    have k2 : (0 : Int) ≤ (k : Int) + 1 := by omega
    have k3 : (k : Int) + 1 ≤ (s.size : Int) := by omega
    have k4 : IntKind.i64.wrap ((k : Int) + 1) = (k : Int) + 1 := by rw [IntKind.wrap_i64]; omega
    have k5 : ((k : Int) + 1).toNat = k + 1 := by omega
    go_wp2_with fail
    go_quiet (fail)
    go_wp2
    simp only [Exit.jump]
    go_ret3
    exact ⟨ret3 HT.out, _, rfl⟩)
  go_wp2
  go_loop [7] (fun i => ∃ (k : Nat), k ≤ s.size ∧ i = .int .i64 k ∧ Hid (cutI s c 0 = cutI s c k)) (fun i => s.size - (intOf i).toNat)
  case atStart => exact ⟨0, Nat.zero_le _, rfl, rfl⟩
  case round =>
    obtain ⟨k, hk, rfl, hr⟩ := hrel
    by_cases hlt : k < s.size
    · by_cases hc : (s[k].toNat : Int) = c
      · have HT : Hid (cutI s c 0 = k) := hr.out.trans (cutI_here hlt hc)
        have b1 : ((s[k].toNat : Int) == c) = true := by simpa using hc
        have HC := (show Hid _ from hc)
        clear hr hc
        go_wp2
        go_step3
        exact (show 0 = 0 ∧ JP s c w _ _ from ⟨rfl, rfl, k, hlt, HT.out, _, _, _, _, _, _, _, _, _, _, _, _, _, _, _, _, _, _, _, _, _, _, _, _, _, rfl⟩)
      · have HR : Hid (cutI s c 0 = cutI s c (k + 1)) := hr.out.trans (cutI_next hlt hc)
        clear hr
        go_wp2
        go_round
        case rel => exact ⟨k + 1, by omega, by go_num, HR.out⟩
        case measure => simp [intOf]; omega
    · have HT := (show Hid _ from cut_none (hr.out.trans (cutI_end hlt)))
      clear hr
      go_wp2
      simp only [Exit.jump]
      go_ret3
      exact ⟨ret3 HT.out, 0, rfl⟩
end Go.Proofs.YtcjipfjbbdbbgaaDoor.Cuts
