/-
  Contracts of ours for texts without blanks at the ends: spec.l7Trim, impl.unblanked; and without blanks beside commas: spec.l7Slim.
-/
import Derived.Test.YtcjipfjbbdbbgaaDoorCuts
import Derived.Test.YtcjipfjbbdbbgaaDoorSlim
import Derived.Test.YtcjipfjbbdbbgaaDoorShelf
namespace Go.Proofs.YtcjipfjbbdbbgaaDoor.Trims
open Go.ChangeShapes Go.WideShapes Go.ChangeAt Go.RowKit Go.Deep
set_option linter.unusedVariables false
open Names (ret_bool empty_yes empty_no)
open Slim

def trimS (s : ByteArray) : ByteArray := ⟨(tr (tl s.data.toList)).toArray⟩
def slimS (s : ByteArray) : ByteArray := ⟨(sq s.data.toList [] false).toArray⟩
theorem size_list (s : ByteArray) : s.data.toList.length = s.size := by rw [Array.length_toList]; rfl
theorem trimS_le (s : ByteArray) : (trimS s).size ≤ s.size := by
  show (tr (tl s.data.toList)).toArray.size ≤ _
  rw [List.size_toArray, ← size_list s]
  exact Nat.le_trans (tr_len _) (tl_len _)
theorem slimS_le (s : ByteArray) : (slimS s).size ≤ 2 * s.size := by
  show (sq s.data.toList [] false).toArray.size ≤ _
  rw [List.size_toArray, ← size_list s]
  have := sq_len s.data.toList [] false
  simpa using this
theorem list_head {t : ByteArray} (h : 0 < t.size) : t.data.toList = t[0] :: (t.extract 1 t.size).data.toList := by
  have hh : 0 < t.data.toList.length := by rw [size_list]; exact h
  rw [ByteArray.data_extract]
  have e : (t.data.extract 1 t.size).toList = t.data.toList.drop 1 := by
    rw [Array.toList_extract]
    simp [List.extract]
    rw [List.take_of_length_le]
    simp
  have e2 := List.drop_eq_getElem_cons hh
  rw [List.drop_zero] at e2
  rw [e]
  exact e2
theorem list_last {t : ByteArray} (h : 0 < t.size) (hq : t.size - 1 < t.size) : t.data.toList = (t.extract 0 (t.size - 1)).data.toList ++ [t[t.size - 1]] := by
  have hh : t.size - 1 < t.data.toList.length := by rw [size_list]; exact hq
  rw [ByteArray.data_extract]
  have e : (t.data.extract 0 (t.size - 1)).toList = t.data.toList.take (t.size - 1) := by
    rw [Array.toList_extract]
    simp [List.extract]
  rw [e]
  have e2 := List.take_succ_eq_append_getElem hh
  rw [show t.size - 1 + 1 = t.data.toList.length by rw [size_list]; omega, List.take_length] at e2
  exact e2
theorem byte_of {c : UInt8} {n : Nat} (h : (c.toNat : Int) = n) (hn : n < 256) : c = UInt8.ofNat n := by
  apply UInt8.toNat_inj.1
  have : c.toNat = n := by omega
  rw [this]
  simp; omega
theorem byte_ne {c : UInt8} {n : Nat} (h : ¬ (c.toNat : Int) = n) (hn : n < 256) : ¬ c = UInt8.ofNat n := fun e => h (by rw [e]; simp; omega)
theorem b32 {c : UInt8} (h : (c.toNat : Int) = 32) : c = 32 := byte_of (n := 32) h (by decide)
theorem n32 {c : UInt8} (h : ¬ (c.toNat : Int) = 32) : ¬ c = 32 := byte_ne (n := 32) h (by decide)
theorem b44 {c : UInt8} (h : (c.toNat : Int) = 44) : c = 44 := byte_of (n := 44) h (by decide)
theorem n44 {c : UInt8} (h : ¬ (c.toNat : Int) = 44) : ¬ c = 44 := byte_ne (n := 44) h (by decide)
theorem slice_1 (s : ByteArray) (h : 0 < s.size) (w : World) : (Instr.slice 9 (.string s) (some (.int .i64 1)) none none).run Tryd.prog w = .ok (.string (s.extract 1 s.size)) w := by
  have := run_slice_string_l (P := Tryd.prog) (w := w) (t := 9) (s := s) Tryd.underlying9 .i64 1 (by omega) (by omega)
  exact this
theorem slice_e (s : ByteArray) (h : 0 < s.size) (w : World) : (Instr.slice 9 (.string s) none (some (.int .i64 ((s.size : Int) - 1))) none).run Tryd.prog w = .ok (.string (s.extract 0 (s.size - 1))) w := by
  have := run_slice_string_h (P := Tryd.prog) (w := w) (t := 9) (s := s) Tryd.underlying9 .i64 ((s.size : Int) - 1) (by omega) (by omega)
  rw [show ((s.size : Int) - 1).toNat = s.size - 1 by omega] at this
  exact this
def sz : Value → Nat | .string t => t.size | _ => 0
theorem ret_str {a b : ByteArray} (h : b = a) : Ending.returned (.string a) = .returned (.string b) := by rw [h]
theorem mk_list (t : ByteArray) : (⟨t.data.toList.toArray⟩ : ByteArray) = t := by simp

set_option maxHeartbeats 1000000 in
theorem l7Trim_any (s : ByteArray) (w : World) (hs : s.size ≤ 1048576) :
    Calls Tryd.prog 30 #[.string s] w fun e w' => e = .returned (.string (trimS s)) ∧ w' = w := by
  obtain ⟨R, hR⟩ : ∃ R, R = trimS s := ⟨_, rfl⟩
  rw [← hR]
  have HR : Hid (R = ⟨(tr (tl s.data.toList)).toArray⟩) := hR
  clear hR
  go_enter Tryd.func30, Tryd.ntmps30
  go_wp2
  go_loop [0] (fun v => ∃ t : ByteArray, v = .string t ∧ t.size ≤ s.size ∧ Hid (R = ⟨(tr (tl t.data.toList)).toArray⟩)) (fun v => sz v)
  case atStart => exact ⟨s, rfl, Nat.le_refl _, HR.out⟩
  case round =>
    clear HR
    obtain ⟨t, rfl, ht, hr⟩ := hrel
    have leave : (Hid (R = ⟨(tr t.data.toList).toArray⟩)) → True := fun _ => trivial
    by_cases hgo : ∃ h : 0 < t.size, (t[0].toNat : Int) = 32
    · obtain ⟨hp, h32⟩ := hgo
      have he := empty_no (s := t) (by omega)
      have s1 := slice_1 t hp
      have HN : Hid (R = ⟨(tr (tl (t.extract 1 t.size).data.toList)).toArray⟩) := by
        have := hr.out
        rw [list_head hp, tl_cons, if_pos (b32 h32)] at this
        exact this
      have hz : (t.extract 1 t.size).size = t.size - 1 := by rw [ByteArray.size_extract]; omega
      clear hr leave
      go_wp2
      go_round
      case rel => exact ⟨_, rfl, by rw [hz]; omega, HN.out⟩
      case measure => simp only [sz]; rw [hz]; omega
    · have HN : Hid (R = ⟨(tr t.data.toList).toArray⟩) := by
        have := hr.out
        by_cases hp : 0 < t.size
        · rw [list_head hp, tl_cons, if_neg (n32 (fun h => hgo ⟨hp, h⟩)), ← list_head hp] at this
          exact this
        · have e : t.data.toList = [] := List.eq_nil_of_length_eq_zero (by rw [size_list]; omega)
          rw [e] at this ⊢
          exact this
      have hno : t.size = 0 ∨ ∃ h : 0 < t.size, ¬ (t[0].toNat : Int) = 32 := by
        by_cases hp : 0 < t.size
        · exact .inr ⟨hp, fun h => hgo ⟨hp, h⟩⟩
        · exact .inl (by omega)
      clear hr leave hgo
      rcases hno with h0 | ⟨hp, h32⟩
      · have he := empty_yes h0
        have HE : Hid (R = t) := by
          have := HN.out
          have e : t.data.toList = [] := List.eq_nil_of_length_eq_zero (by rw [size_list]; omega)
          rw [e, tr_nil, ← e, mk_list] at this
          exact this
        clear HN
        go_wp2
        go_loop [0] (fun v => v = .string t) (fun v => 0)
        case atStart => rfl
        case round =>
          have hrel' := hrel
          subst hrel'
          go_wp2
          go_ret
          exact ⟨ret_str HE.out, rfl⟩
      · have he := empty_no (s := t) (by omega)
        have q32 : ((t[0].toNat : Int) == 32) = false := by simpa using h32
        go_wp2
        go_loop [0] (fun v => ∃ t' : ByteArray, v = .string t' ∧ t'.size ≤ s.size ∧ Hid (R = ⟨(tr t'.data.toList).toArray⟩)) (fun v => sz v)
        case atStart => exact ⟨t, rfl, ht, HN.out⟩
        case round =>
          clear HN he q32 h32
          obtain ⟨u, rfl, hu, hr⟩ := hrel
          by_cases hpu : 0 < u.size
          · have hq : u.size - 1 < u.size := by omega
            have heu := empty_no (s := u) (by omega)
            have hw1 : ((u.size : Int) - 1).toNat = u.size - 1 := by omega
            have i0 : (0 : Int) ≤ (u.size : Int) - 1 := by omega
            have i1 : (u.size : Int) - 1 < (u.size : Int) := by omega
            by_cases hl : (u[u.size - 1].toNat : Int) = 32
            · have s2 := slice_e u hpu
              have HN : Hid (R = ⟨(tr (u.extract 0 (u.size - 1)).data.toList).toArray⟩) := by
                have := hr.out
                rw [list_last hpu hq, tr_snoc, if_pos (b32 hl)] at this
                exact this
              have hz : (u.extract 0 (u.size - 1)).size = u.size - 1 := by rw [ByteArray.size_extract]; omega
              clear hr
              go_wp2
              go_round
              case rel => exact ⟨_, rfl, by rw [hz]; omega, HN.out⟩
              case measure => simp only [sz]; rw [hz]; omega
            · have HE : Hid (R = u) := by
                have := hr.out
                rw [list_last hpu hq, tr_snoc, if_neg (n32 hl), ← list_last hpu hq, mk_list] at this
                exact this
              have q32 : ((u[u.size - 1].toNat : Int) == 32) = false := by simpa using hl
              clear hr
              go_wp2
              go_ret
              exact ⟨ret_str HE.out, rfl⟩
          · have heu := empty_yes (s := u) (by omega)
            have HE : Hid (R = u) := by
              have := hr.out
              have e : u.data.toList = [] := List.eq_nil_of_length_eq_zero (by rw [size_list]; omega)
              rw [e, tr_nil, ← e, mk_list] at this
              exact this
            clear hr
            go_wp2
            go_ret
            exact ⟨ret_str HE.out, rfl⟩

theorem unblanked_any (s : ByteArray) (w : World) (hs : s.size ≤ 1048576) :
    Calls Tryd.prog 24 #[.string s] w fun e w' => e = .returned (.string (trimS s)) ∧ Below w.heap.size w w' := by
  have c := Tryd.strings_Trim_one s 32 (by decide) w (by omega)
  rw [trim_eq] at c
  go_enter Tryd.func24, Tryd.ntmps24
  go_wp2_with fail
  refine c.mono ?_
  rintro e w' ⟨rfl, hw'⟩
  have B : Hid (Below w.heap.size w w') := by
    rcases hw' with h | h
    · rw [h]; exact Below.refl _ _
    · rw [h]; exact (Below.refl _ _).drew
  clear hw'
  go_wp2
  go_ret
  exact ⟨rfl, B.out⟩
end Go.Proofs.YtcjipfjbbdbbgaaDoor.Trims
