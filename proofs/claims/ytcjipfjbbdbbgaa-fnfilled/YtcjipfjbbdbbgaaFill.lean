/-
  Contracts of ours for lines whose marks are filled: spec.l8Fill, spec.Filled, impl.markAt, impl.filledIn, impl.Filled.
-/
import Derived.Test.YtcjipfjbbdbbgaaTxts
import Derived.Test.YtcjipfjbbdbbgaaNames
import Derived.Laws.BytesArg
import Derived.Laws.IdiomStrings
import Derived.Lib.AppendStr
import Derived.Maps.AppendAt
import Derived.Laws.Strings2
namespace Go.Proofs.Ytcjipfjbbdbbgaa.Fill
open Go.ChangeShapes Go.WideShapes Go.ChangeAt Go.RowKit Go.Deep
set_option linter.unusedVariables false
open Txts (Texts)
open Names (decB decimal_any ret_bool)

theorem infoB : (Try.prog.info? 5).map (fun i => (i.zero, i.size, i.bytes)) = some (some (.int .u8 0), 1, 1) := by kernel_rfl
theorem ret_int {k : IntKind} {a b : Int} (h : a = b) : Ending.returned (.int k a) = .returned (.int k b) := by rw [h]

/-- What a call owns as bytes is a text. -/
theorem owned_string {w : World} {base n : Nat} {v : Value} {out : ByteArray} (h : w.ownsRow base 5 1 v n (Lib.strCells out)) :
    ∃ a cap, v = .slice a out.size cap ∧ n = out.size ∧ (convert 22 9 (.slice a out.size cap)).run Try.prog w = .ok (.string out) w := by
  have hn : n = out.size := by have := h.1; rw [Lib.strCells_length] at this; omega
  subst hn
  rcases h.2 with ⟨rfl, h0⟩ | ⟨g, cap, cur, rfl, hb, hg, rest⟩
  · refine ⟨none, 0, by rw [h0], rfl, ?_⟩
    have e : out = ByteArray.empty := by
      apply ByteArray.ext
      exact Array.eq_empty_of_size_eq_zero h0
    have := run_convert_bytes_nil w (P := Try.prog) 22 5 Try.underlying22 Try.underlying5 0 0 9 Try.underlying9
    rw [e]
    exact this
  · refine ⟨_, cap, rfl, rfl, ?_⟩
    have hl : out.data.toList.length = out.size := by rw [Array.length_toList]; rfl
    have hb := run_convert_bytes_back (P := Try.prog) w 22 9 5 ⟨g, 0, none⟩ cap out.data.toList Try.underlying22 Try.underlying5 Try.underlying9 (fun j hj => by
      have ea : (⟨g, 0, none⟩ : Addr).add j = ⟨g, j, none⟩ := by unfold Addr.add; split <;> simp_all
      have := h.cellAt j (by rw [hl] at hj; omega)
      rw [ea, this]
      unfold Lib.strCells
      rw [List.getElem?_map, List.getElem?_eq_getElem hj]
      rfl)
    rw [hl] at hb
    simpa using hb

def numAt (s : ByteArray) (k : Nat) : Nat := if h : k < s.size then s[k].toNat else 0
theorem numAt_of {s : ByteArray} {k : Nat} (h : k < s.size) : numAt s k = s[k].toNat := by unfold numAt; rw [dif_pos h]
def markB (s : ByteArray) (k : Nat) : Bool := decide (numAt s k = 92 ∧ k + 1 < s.size ∧ 49 ≤ numAt s (k + 1) ∧ numAt s (k + 1) ≤ 57)
def argAt (A : List ByteArray) (i : Nat) : ByteArray := (A[i]?).getD ⟨#[]⟩
theorem argAt_of {A : List ByteArray} {i : Nat} (h : i < A.length) : argAt A i = A[i] := by unfold argAt; rw [List.getElem?_eq_getElem h]; rfl
theorem argAt_no {A : List ByteArray} {i : Nat} (h : ¬ i < A.length) : argAt A i = ⟨#[]⟩ := by unfold argAt; rw [List.getElem?_eq_none (by omega)]; rfl
/-- What comes of a line from a place on. -/
def fill (s : ByteArray) (A : List ByteArray) (k : Nat) : ByteArray :=
  if k < s.size then (if markB s k = true then argAt A (numAt s (k + 1) - 49) ++ fill s A (k + 2) else s.extract k (k + 1) ++ fill s A (k + 1)) else ⟨#[]⟩
termination_by s.size - k
decreasing_by all_goals omega
theorem fill_end {s : ByteArray} {A : List ByteArray} {k : Nat} (h : ¬ k < s.size) : fill s A k = ⟨#[]⟩ := by rw [fill, if_neg h]
theorem fill_mark {s : ByteArray} {A : List ByteArray} {k : Nat} (h : k < s.size) (hm : markB s k = true) : fill s A k = argAt A (numAt s (k + 1) - 49) ++ fill s A (k + 2) := by rw [fill, if_pos h, if_pos hm]
theorem fill_one {s : ByteArray} {A : List ByteArray} {k : Nat} (h : k < s.size) (hm : markB s k = false) : fill s A k = s.extract k (k + 1) ++ fill s A (k + 1) := by rw [fill, if_pos h, if_neg (by rw [hm]; decide)]
theorem cat_nil (s : ByteArray) : s ++ (⟨#[]⟩ : ByteArray) = s := by
  have h : s ++ ByteArray.empty = s := ByteArray.append_empty
  exact h
theorem cells_one {s : ByteArray} {k : Nat} (h : k < s.size) : Lib.strCells (s.extract k (k + 1)) = [.int .u8 (s[k].toNat : Int)] := by
  unfold Lib.strCells
  have e : (s.extract k (k + 1)).data.toList = [s[k]] := by
    rw [ByteArray.data_extract]
    have hh : k < s.data.size := h
    apply List.ext_getElem
    · simp; omega
    · intro i h1 h2
      simp at h2
      subst h2
      simp
      rfl
  rw [e]; rfl
theorem cells_cat (s t : ByteArray) : Lib.strCells (s ++ t) = Lib.strCells s ++ Lib.strCells t := by
  unfold Lib.strCells
  rw [ByteArray.data_append, Array.toList_append, List.map_append]

theorem slice_one (s : ByteArray) (k : Nat) (h : k < s.size) (w : World) : (Instr.slice 9 (.string s) (some (.int .i64 (k : Int))) (some (.int .i64 ((k : Int) + 1))) none).run Try.prog w = .ok (.string (s.extract k (k + 1))) w := by
  have := run_slice_string (P := Try.prog) w 9 s .i64 .i64 (k : Int) ((k : Int) + 1) Try.underlying9 (by omega) (by omega) (by omega)
  rw [show ((k : Int) + 1).toNat = k + 1 by omega, Int.toNat_natCast] at this
  exact this

def markN (s : ByteArray) (k : Nat) : Int := if markB s k = true then (numAt s (k + 1) : Int) - 48 else 0

set_option maxHeartbeats 400000 in
theorem markAt_any (s : ByteArray) (k : Nat) (w : World) (hk : k < s.size) (hs : s.size ≤ 1048576) :
    Calls Try.prog 26 #[.string s, .int .i64 k] w fun e w' => e = .returned (.int .i64 (markN s k)) ∧ w' = w := by
  have nk := numAt_of hk
  by_cases h0 : (s[k].toNat : Int) = 92
  · by_cases h1 : k + 1 = s.size
    · have hm : markN s k = 0 := by unfold markN; rw [if_neg]; unfold markB; intro h; have := of_decide_eq_true h; omega
      rw [hm]
      clear hm nk
      have h2 : (k : Int) + 1 = (s.size : Int) := by omega
      go_enter Try.func26, Try.ntmps26
      go_wp2
      all_goals go_ret
      all_goals exact ⟨rfl, rfl⟩
    · have hk1 : k + 1 < s.size := by omega
      have nk1 := numAt_of hk1
      have h2 : ¬ (k : Int) + 1 = (s.size : Int) := by omega
      have hb := UInt8.toNat_lt s[k + 1]
      by_cases hd : decB (s[k + 1].toNat : Int) = true
      · have hd' := of_decide_eq_true (show decide _ = true from hd)
        have hm : markN s k = (s[k + 1].toNat : Int) - 48 := by
          unfold markN
          by_cases h49 : 49 ≤ s[k + 1].toNat
          · rw [if_pos (by unfold markB; exact decide_eq_true (by omega)), nk1]
          · rw [if_neg (by unfold markB; intro h; have := of_decide_eq_true h; omega)]; omega
        rw [hm]
        clear hm nk nk1
        obtain ⟨d0, d1⟩ := hd'
        go_enter Try.func26, Try.ntmps26
        go_wp2_with (go_at_call 27; refine (decimal_any _ _).mono ?_; rintro e w' ⟨rfl, rfl⟩)
        all_goals go_ret
        all_goals exact ⟨rfl, rfl⟩
      · have hm : markN s k = 0 := by
          unfold markN; rw [if_neg]; unfold markB; intro h; have := of_decide_eq_true h
          exact hd (decide_eq_true (by omega))
        rw [hm]
        have hd' : decB (s[k + 1].toNat : Int) = false := by simpa using hd
        clear hm nk nk1 hd
        go_enter Try.func26, Try.ntmps26
        go_wp2_with (go_at_call 27; refine (decimal_any _ _).mono ?_; rintro e w' ⟨rfl, rfl⟩)
        all_goals go_ret
        all_goals exact ⟨rfl, rfl⟩
  · have hm : markN s k = 0 := by unfold markN; rw [if_neg]; unfold markB; intro h; have := of_decide_eq_true h; omega
    rw [hm]
    clear hm nk
    go_enter Try.func26, Try.ntmps26
    go_wp2
    all_goals go_ret
    all_goals exact ⟨rfl, rfl⟩

def fitB (s : ByteArray) : Bool := decide ((s.size : Int) ≤ 80)

theorem arg_le {A : List ByteArray} (hA : ∀ i (h : i < A.length), A[i].size ≤ 80) (i : Nat) : (argAt A i).size ≤ 80 := by
  by_cases h : i < A.length
  · rw [argAt_of h]; exact hA i h
  · rw [argAt_no h]; exact Nat.zero_le _

set_option maxHeartbeats 1000000 in
theorem l8Fill_any (s : ByteArray) (a : Option Addr) (cap : Nat) (A : List ByteArray) (w : World) (hN : Texts w a A) (hs : s.size ≤ 80) (hA : ∀ i (h : i < A.length), A[i].size ≤ 80) (hlen : A.length ≤ 1048576) :
    Calls Try.prog 23 #[.string s, .slice a A.length cap] w fun e w' => e = .returned (.tuple #[.string (fill s A 0), .bool (fitB (fill s A 0))]) ∧ w' = w := by
  have HA : Hid (∀ i (h : i < A.length), A[i].size ≤ 80) := hA
  clear hA
  obtain ⟨len, hl⟩ : ∃ len, len = A.length := ⟨_, rfl⟩
  have HL : Hid (len = A.length) := hl
  rw [← hl] at hlen ⊢
  obtain ⟨r, hr⟩ : ∃ r, r = fill s A 0 := ⟨_, rfl⟩
  rw [← hr]
  clear hl
  go_enter Try.func23, Try.ntmps23
  go_wp2
  go_loop [6, 7] (fun o i => ∃ (k : Nat) (out : ByteArray), k ≤ s.size ∧ out.size ≤ 80 * k ∧ i = .int .i64 k ∧ o = .string out ∧ Hid (r = out ++ fill s A k)) (fun _ i => s.size - (intOf i).toNat)
  case atStart => exact ⟨0, ⟨#[]⟩, Nat.zero_le _, Nat.le_refl _, rfl, rfl, by rw [hr]; exact ByteArray.empty_append.symm⟩
  case round =>
    clear hr
    obtain ⟨k, out, hk, ho, rfl, rfl, hr⟩ := hrel
    by_cases hlt : k < s.size
    · have nk := numAt_of hlt
      have hone : (s.extract k (k + 1)).size = 1 := by rw [ByteArray.size_extract]; omega
      have q1 : ¬ 9223372036854775807 < out.size + 1 := by omega
      have hsl := slice_one s k hlt
      have plain : Hid (markB s k = false → r = (out ++ s.extract k (k + 1)) ++ fill s A (k + 1)) := fun hm => by
        have := hr.out; rw [fill_one hlt hm, ← ByteArray.append_assoc] at this; exact this
      have rel1 : Hid (markB s k = false → ∃ (k' : Nat) (o' : ByteArray), k' ≤ s.size ∧ o'.size ≤ 80 * k' ∧ Value.int .i64 ((k : Int) + 1) = .int .i64 k' ∧ Value.string (out ++ s.extract k (k + 1)) = .string o' ∧ Hid (r = o' ++ fill s A k')) := fun hm =>
        ⟨k + 1, _, by omega, by rw [ByteArray.size_append, hone]; omega, by go_num, rfl, plain.out hm⟩
      clear plain
      by_cases h0 : (s[k].toNat : Int) = 92
      · by_cases h1 : k + 1 < s.size
        · have nk1 := numAt_of h1
          have hb := UInt8.toNat_lt s[k + 1]
          have h1' : (k : Int) + 1 < (s.size : Int) := by omega
          by_cases h2 : (s[k + 1].toNat : Int) < 49
          · have hm := rel1.out (by unfold markB; exact decide_eq_false (by omega))
            have HM := (show Hid _ from hm)
            clear hm rel1 nk nk1 hr
            have d2 : decide (49 ≤ (s[k + 1].toNat : Int)) = false := decide_eq_false (by omega)
            go_wp2
            go_round
            case rel => exact HM.out
            case measure => simp [intOf]; omega
          by_cases h3 : 57 < (s[k + 1].toNat : Int)
          · have hm := rel1.out (by unfold markB; exact decide_eq_false (by omega))
            have HM := (show Hid _ from hm)
            clear hm rel1 nk nk1 hr
            have d2 : decide ((s[k + 1].toNat : Int) ≤ 57) = false := decide_eq_false (by omega)
            go_wp2
            go_round
            case rel => exact HM.out
            case measure => simp [intOf]; omega
          · have hm : markB s k = true := by unfold markB; exact decide_eq_true (by omega)
            have hr' := hr.out
            rw [fill_mark hlt hm, nk1, ← ByteArray.append_assoc] at hr'
            have HR := (show Hid _ from hr')
            have hle : (argAt A (s[k + 1].toNat - 49)).size ≤ 80 := arg_le HA.out _
            clear hm rel1 nk nk1 hr hr'
            by_cases hi : (s[k + 1].toNat : Int) - 49 < (len : Int)
            · have hiA : s[k + 1].toNat - 49 < A.length := by have := HL.out; omega
              rw [argAt_of hiA] at HR hle
              rcases hN with hnil | ⟨b, off, rfl, hb, hc⟩
              · exfalso; rw [hnil] at hiA; exact absurd hiA (by simp)
              have c0 : w.cell? ⟨b, off + ((s[k + 1].toNat : Int) - 49).toNat, none⟩ = some (.string A[s[k + 1].toNat - 49]) := by
                have e : ((s[k + 1].toNat : Int) - 49).toNat = s[k + 1].toNat - 49 := by omega
                rw [e]; exact hc _ hiA
              have c1 : w.cell? ⟨b, off + (s[k + 1].toNat - 49), none⟩ = some (.string A[s[k + 1].toNat - 49]) := hc _ hiA
              clear hc
              generalize A[s[k + 1].toNat - 49] = t at HR hle c0 c1
              have q2 : ¬ 9223372036854775807 < out.size + t.size := by omega
              go_wp2
              go_round
              case rel => exact ⟨k + 2, out ++ t, by omega, by rw [ByteArray.size_append]; omega, by go_num, rfl, HR.out⟩
              case measure => simp [intOf]; omega
            · have hiA : ¬ s[k + 1].toNat - 49 < A.length := by have := HL.out; omega
              rw [argAt_no hiA, cat_nil] at HR
              clear hN
              go_wp2
              go_round
              case rel => exact ⟨k + 2, out, by omega, by omega, by go_num, rfl, HR.out⟩
              case measure => simp [intOf]; omega
        · have hm := rel1.out (by unfold markB; exact decide_eq_false (by omega))
          have HM := (show Hid _ from hm)
          have h1' : decide ((k : Int) + 1 < (s.size : Int)) = false := decide_eq_false (by omega)
          clear hm rel1 nk hr
          go_wp2
          go_round
          case rel => exact HM.out
          case measure => simp [intOf]; omega
      · have hm := rel1.out (by unfold markB; exact decide_eq_false (by omega))
        have HM := (show Hid _ from hm)
        clear hm rel1 nk hr
        go_wp2
        go_round
        case rel => exact HM.out
        case measure => simp [intOf]; omega
    · have HR : Hid (r = out) := by have := hr.out; rw [fill_end hlt, cat_nil] at this; exact this
      clear hr hN
      have hz : out.size ≤ 6400 := by omega
      go_wp2
      go_ret2
      refine ⟨?_, rfl⟩
      rw [HR.out]
      rfl

theorem markN_yes {s : ByteArray} {k : Nat} (h : markB s k = true) : markN s k = (numAt s (k + 1) : Int) - 48 := by unfold markN; rw [if_pos h]
theorem markN_no {s : ByteArray} {k : Nat} (h : markB s k = false) : markN s k = 0 := by unfold markN; rw [if_neg (by rw [h]; decide)]

set_option maxHeartbeats 2000000 in
theorem filledIn_any (s : ByteArray) (a : Option Addr) (cap : Nat) (A : List ByteArray) (w : World) (hN : Texts w a A) (hs : s.size ≤ 80) (hA : ∀ i (h : i < A.length), A[i].size ≤ 80) (hlen : A.length ≤ 1048576) :
    Calls Try.prog 22 #[.string s, .slice a A.length cap] w fun e w' => e = .returned (.tuple #[.string (fill s A 0), .bool (fitB (fill s A 0))]) ∧ Below w.heap.size w w' := by
  obtain ⟨i0, hi, hz0, hz1, hz2⟩ := info_parts infoB
  have HA : Hid (∀ i (h : i < A.length), A[i].size ≤ 80) := hA
  clear hA
  obtain ⟨len, hl⟩ : ∃ len, len = A.length := ⟨_, rfl⟩
  have HL : Hid (len = A.length) := hl
  rw [← hl] at hlen ⊢
  obtain ⟨r, hr⟩ : ∃ r, r = fill s A 0 := ⟨_, rfl⟩
  rw [← hr]
  clear hl
  go_enter Try.func22, Try.ntmps22
  go_wp2
  go_loopw [6, 7] (fun o i wr => ∃ (k : Nat) (out : ByteArray), k ≤ s.size ∧ out.size ≤ 80 * k ∧ i = .int .i64 k ∧ Hid (wr.ownsRow w.heap.size 5 1 o out.size (Lib.strCells out)) ∧ Hid (r = out ++ fill s A k) ∧ Hid (Below w.heap.size w wr)) (fun _ i _ => s.size - (intOf i).toNat)
  case atStart => exact ⟨0, ⟨#[]⟩, Nat.zero_le _, Nat.le_refl _, rfl, World.ownsRow_nil _ _ _ _, by rw [hr]; exact ByteArray.empty_append.symm, Below.refl _ _⟩
  case round =>
    clear hr
    obtain ⟨k, out, hk, ho, rfl, hown, hr, hbel⟩ := hrel
    by_cases hlt : k < s.size
    · have cm := fun W => markAt_any s k W hlt (by omega)
      have hone : (s.extract k (k + 1)).size = 1 := by rw [ByteArray.size_extract]; omega
      by_cases hm : markB s k = true
      · have hm' := of_decide_eq_true (show decide _ = true from hm)
        have hr' := hr.out
        rw [fill_mark hlt hm, ← ByteArray.append_assoc] at hr'
        have HR := (show Hid _ from hr')
        have hle : (argAt A (numAt s (k + 1) - 49)).size ≤ 80 := arg_le HA.out _
        rw [markN_yes hm] at cm
        obtain ⟨_, hk1, hx0, hx1⟩ := hm'
        clear hm hr hr' hone
        generalize numAt s (k + 1) = x at cm hle HR hx0 hx1
        by_cases hi' : (x : Int) - 48 ≤ (len : Int)
        · have hiA : x - 49 < A.length := by have := HL.out; omega
          rw [argAt_of hiA] at HR hle
          rcases hN with hnil | ⟨b, off, rfl, hb, hc⟩
          · exfalso; rw [hnil] at hiA; exact absurd hiA (by simp)
          have c1 : wr.cell? ⟨b, off + (x - 49), none⟩ = some (.string A[x - 49]) := (hbel.out.cell (p := ⟨b, _, none⟩) hb).trans (hc _ hiA)
          have c0 : wr.cell? ⟨b, off + ((x : Int) - 48 - 1).toNat, none⟩ = some (.string A[x - 49]) := by
            have e : ((x : Int) - 48 - 1).toNat = x - 49 := by omega
            rw [e]; exact c1
          clear hc
          generalize A[x - 49] = t at HR hle c0 c1
          have e1 : (x : Int) - 48 - 1 = (x : Int) - 49 := by omega
          go_wp2_with (first | (go_at_call 26; refine (cm _).mono ?_; rintro e w' ⟨rfl, rfl⟩) | (at_builtin; refine Lib.wpList_append_own_string _ rfl (.tmp 30) (.tmp 35) 22 9 rfl w.heap.size 5 i0 Try.underlying22 Try.underlying9 hi hz0 hz1 hz2 _ _ _ rfl hown.out t rfl (by unfold maxLen; omega) (by omega) hbel.out.size ?_; intro v' w2 hown' hgrow _) | go_in)
          have hlt2 := hown.out.lt
          go_wp2
          go_roundw
          case rel => exact ⟨k + 2, out ++ t, by omega, by rw [ByteArray.size_append]; omega, by go_num, by rw [ByteArray.size_append, cells_cat]; exact hown', HR.out, hbel.out.grown hgrow hbel.out.size (fun j hj => (hlt2 j hj).1)⟩
          case measure => simp [intOf]; omega
        · have hiA : ¬ x - 49 < A.length := by have := HL.out; omega
          rw [argAt_no hiA, cat_nil] at HR
          clear hN
          go_wp2_with (go_at_call 26; refine (cm _).mono ?_; rintro e w' ⟨rfl, rfl⟩)
          go_roundw
          case rel => exact ⟨k + 2, out, by omega, by omega, by go_num, hown.out, HR.out, hbel.out⟩
          case measure => simp [intOf]; omega
      · have hm' : markB s k = false := by simpa using hm
        have hr' := hr.out
        rw [fill_one hlt hm', ← ByteArray.append_assoc] at hr'
        have HR := (show Hid _ from hr')
        have HC := (show Hid _ from cells_one hlt)
        rw [markN_no hm'] at cm
        clear hm hm' hr hr' hN
        go_wp2_with (first | (go_at_call 26; refine (cm _).mono ?_; rintro e w' ⟨rfl, hw'⟩; have hw' := hw'.symm; subst hw') | (at_builtin; refine wpList_append_own _ rfl (.tmp 20) (.tmp 24) 22 rfl w.heap.size 5 i0 (.int .u8 0) 1 1 Try.underlying22 hi hz0 hz1 hz2 rfl (by decide) _ _ _ rfl (hown.out.alloc _) ⟨wr.heap.size, 0, none⟩ 1 1 [.int .u8 (s[k].toNat : Int)] rfl rfl (cell_one_new _ _ _) (by intro u hu; simp at hu; subst hu; rfl) (by unfold maxLen; omega) (by omega) (by have := hbel.out.size; simp; omega) ?_; intro v' w2 hown' hgrow _) | go_in)
        have hlt2 := hown.out.lt
        go_wp2
        go_roundw
        case rel => exact ⟨k + 1, out ++ s.extract k (k + 1), by omega, by rw [ByteArray.size_append]; omega, by go_num, by rw [ByteArray.size_append, cells_cat, HC.out, hone]; exact hown', HR.out, (hbel.out.alloc hbel.out.size _).grown hgrow (by have := hbel.out.size; simp; omega) (fun j hj => (hlt2 j hj).1)⟩
        case measure => simp [intOf]; omega
    · have HR : Hid (r = out) := by have := hr.out; rw [fill_end hlt, cat_nil] at this; exact this
      clear hr hN
      have hz : out.size ≤ 6400 := by omega
      obtain ⟨a', cap', hv, _, hcv⟩ := owned_string hown.out
      clear hown
      subst hv
      go_wp2
      go_ret2
      refine ⟨?_, hbel.out⟩
      rw [HR.out]
      rfl

/-- Are all args short? -/
def shortB (A : List ByteArray) (k : Nat) : Prop := ∀ i (h : i < A.length), i < k → A[i].size ≤ 80
def goodB (s : ByteArray) (A : List ByteArray) : Prop := s.size ≤ 80 ∧ A.length ≤ 9 ∧ (∀ i (h : i < A.length), A[i].size ≤ 80) ∧ fitB (fill s A 0) = true
open Classical in
noncomputable def filled (s : ByteArray) (A : List ByteArray) : ByteArray := if goodB s A then fill s A 0 else ⟨#[]⟩
theorem filled_no {s : ByteArray} {A : List ByteArray} (h : ¬ goodB s A) : filled s A = ⟨#[]⟩ := by unfold filled; rw [if_neg h]
theorem filled_yes {s : ByteArray} {A : List ByteArray} (h : goodB s A) : filled s A = fill s A 0 := by unfold filled; rw [if_pos h]
end Go.Proofs.Ytcjipfjbbdbbgaa.Fill
