/-
  Contracts of ours for spec.l15Run and spec.PackedOf, at every text.
-/
import Derived.Test.YtbffchfadockmaaPakp
import Derived.ProofKit
import Derived.OpenShut
import Derived.ShutString
import Derived.Outline
import Derived.WalkLawsBesides
import Derived.BigQuiet
import Derived.Deep.RegionWith
import Derived.Deep.QuietTactic
import Derived.Below
import Derived.OneCell
import Derived.Laws.Rows
import Derived.Laws.BytesArg
import Derived.Deep.Strs
import Derived.ChangeOld
import Derived.Below
namespace Go.Proofs.Ytbffchfadockmaa.Paks
open Go.ChangeShapes Go.WideShapes Go.ChangeAt Go.RowKit Go.Deep
open Pakp
set_option linter.unusedVariables false
set_option maxRecDepth 20000
abbrev D (s : ByteArray) (k : Nat) : List UInt8 := s.data.toList.drop k
theorem at_list (s : ByteArray) (j : Nat) (h : j < s.size) : s.data.toList[j]? = some s[j] := by
  rw [List.getElem?_eq_getElem (by rw [Array.length_toList]; exact h), Array.getElem_toList]; rfl
theorem D_at (s : ByteArray) (k j : Nat) (h : k + j < s.size) : (D s k)[j]? = some s[k + j] := by
  rw [List.getElem?_drop]; exact at_list s _ h
theorem D_len (s : ByteArray) (k : Nat) : (D s k).length = s.size - k := by simp [D]
theorem drewN_below {B : Nat} {a b : World} (h : Below B a b) (n : Nat) : Below B a (b.drewN n) := ⟨h.os, h.tape, h.output, h.size, h.block⟩
theorem eq_byte {a b : UInt8} : (a.toNat : Int) = (b.toNat : Int) ↔ a = b := by
  constructor
  · intro h; apply UInt8.toNat_inj.1; omega
  · rintro rfl; rfl
theorem ret_int {k : IntKind} {a b : Int} (h : a = b) : Ending.returned (.int k a) = .returned (.int k b) := by rw [h]

set_option maxHeartbeats 1000000 in
theorem l15Run_any (s : ByteArray) (k : Nat) (w : World) (hk : k < s.size) (hs : s.size ≤ 1048576) :
    Calls Try.prog 14 #[.string s, .int .i64 (k : Int)] w fun e w' => e = .returned (.int .i64 (run (D s k) : Nat)) ∧ ∃ n, w' = w.drewN n := by
  have H0 : Hid (∀ i, i < 1 → (D s k)[i]? = some s[k]) := fun i hi => by obtain rfl : i = 0 := by omega
                                                                         exact D_at s k 0 (by omega)
  have HL := D_len s k
  go_enter Try.func14, Try.ntmps14
  go_wp2
  go_loopw [5] (fun i wr => ∃ (n : Nat), 1 ≤ n ∧ n ≤ 128 ∧ k + n ≤ s.size ∧ i = .int .i64 n ∧ Hid (∀ i, i < n → (D s k)[i]? = some s[k]) ∧ Hid (∃ m, wr = w.drewN m)) (fun i _ => 200 - (intOf i).toNat)
  case atStart => exact ⟨1, Nat.le_refl _, by omega, by omega, rfl, H0.out, 0, rfl⟩
  case round =>
    clear H0
    obtain ⟨n, h1, h2, h3, rfl, hall, hw⟩ := hrel
    have E : Hid ((n = (D s k).length ∨ n = 128 ∨ (D s k)[n]? ≠ some s[k]) → (run (D s k) : Int) = n) := fun he => by rw [run_eq h1 h2 (by rw [HL]; omega) hall.out he]
    have k0 : (0 : Int) ≤ (k : Int) := by omega
    have k1 : (k : Int) < (s.size : Int) := by omega
    obtain ⟨j, hj⟩ : ∃ j : Nat, j = k + n := ⟨_, rfl⟩
    have HJ : Hid (j = k + n) := hj
    have e1 : (k : Int) + (n : Int) = (j : Int) := by omega
    have e2 : IntKind.i64.wrap (j : Int) = (j : Int) := by rw [IntKind.wrap_i64]; omega
    have DA : Hid (∀ h : j < s.size, (D s k)[n]? = some s[j]) := fun h => by
      have := D_at s k n (by omega)
      simpa only [hj] using this
    have hjs : j ≤ s.size := by omega
    clear hj h3
    by_cases c1 : j < s.size
    · have d1 : decide ((j : Int) < (s.size : Int)) = true := decide_eq_true (by omega)
      have e3 : (0 : Int) ≤ (j : Int) := by omega
      have e4 : (j : Int) < (s.size : Int) := by omega
      by_cases c2 : n < 128
      · have d2 : decide ((n : Int) < 128) = true := decide_eq_true (by omega)
        by_cases c3 : s[j] = s[k]
        · have HN : Hid (∀ i, i < n + 1 → (D s k)[i]? = some s[k]) := fun i hi => by
            rcases Nat.lt_or_ge i n with h' | h'
            · exact hall.out i h'
            · obtain rfl : i = n := by omega
              rw [DA.out c1, c3]
          have c3 : (s[j].toNat : Int) = (s[k].toNat : Int) := eq_byte.2 c3
          clear E hall
          go_wp2_with fail
          go_quiet (fail)
          go_wp2
          go_roundw
          case rel => obtain ⟨m, rfl⟩ := hw.out
                      exact ⟨n + 1, by omega, by omega, by have := HJ.out; omega, by go_num, HN.out, _, World.drewN_drewN _ _ _⟩
          case measure => simp [intOf]; omega
        · have HE : Hid ((run (D s k) : Int) = n) := E.out (.inr (.inr (by rw [DA.out c1]; simpa using c3)))
          have c3 : ¬ (s[j].toNat : Int) = (s[k].toNat : Int) := fun h => c3 (eq_byte.1 h)
          have c4 : ((s[j].toNat : Int) == (s[k].toNat : Int)) = false := by simpa using c3
          clear E hall
          go_wp2_with fail
          go_quiet (fail)
          go_wp2
          go_ret
          obtain ⟨m, rfl⟩ := hw.out
          exact ⟨ret_int HE.out.symm, _, World.drewN_drewN _ _ _⟩
      · have HE : Hid ((run (D s k) : Int) = n) := E.out (.inr (.inl (by omega)))
        have d2 : decide ((n : Int) < 128) = false := decide_eq_false (by omega)
        clear E hall
        go_wp2_with fail
        go_quiet (fail)
        go_wp2
        go_ret
        obtain ⟨m, rfl⟩ := hw.out
        exact ⟨ret_int HE.out.symm, _, World.drewN_drewN _ _ _⟩
    · have HE : Hid ((run (D s k) : Int) = n) := E.out (.inl (by have := HJ.out; rw [HL]; omega))
      have d1 : decide ((j : Int) < (s.size : Int)) = false := decide_eq_false (by omega)
      clear E hall
      go_wp2_with fail
      go_quiet (fail)
      go_wp2
      go_ret
      obtain ⟨m, rfl⟩ := hw.out
      exact ⟨ret_int HE.out.symm, _, World.drewN_drewN _ _ _⟩

theorem conv {W : World} {B n cap : Nat} (l : List Int) (hl : l.length = n) (h : ∀ i (hi : i < n), W.cell? ⟨B, i, none⟩ = some (.int .u8 (l.getD i 0))) :
    (convert 25 9 (.slice (some ⟨B, 0, none⟩) n cap)).run Try.prog W = .ok (.string (strOfNums l)) W := by
  subst hl
  exact run_convert_bytes_arg _ 25 5 Try.underlying25 Try.underlying5 B 0 _ cap l rfl (fun i hi => by rw [Nat.zero_add]; exact h i hi) 9 Try.underlying9
theorem conv1 (u : World) (x : Int) : (convert 25 9 (.slice (some ⟨u.heap.size, 0, none⟩) 1 1)).run Try.prog (u.alloc (.cells #[.int .u8 x] 5)) = .ok (.string (strOfNums [x])) (u.alloc (.cells #[.int .u8 x] 5)) :=
  conv [x] rfl (fun i hi => by rw [World.cell?_alloc_new]; match i, hi with | 0, _ => rfl)
theorem conv2 (u : World) (x y : Int) : (convert 25 9 (.slice (some ⟨u.heap.size, 0, none⟩) 2 2)).run Try.prog (u.alloc (.cells #[.int .u8 x, .int .u8 y] 5)) = .ok (.string (strOfNums [x, y])) (u.alloc (.cells #[.int .u8 x, .int .u8 y] 5)) :=
  conv [x, y] rfl (fun i hi => by rw [World.cell?_alloc_new]; match i, hi with | 0, _ => rfl | 1, _ => rfl)
theorem conv1d (u : World) (x : Int) : (convert 25 9 (.slice (some ⟨u.heap.size, 0, none⟩) 1 1)).run Try.prog (u.alloc (.cells #[.int .u8 x] 5)).drew = .ok (.string (strOfNums [x])) (u.alloc (.cells #[.int .u8 x] 5)).drew :=
  conv [x] rfl (fun i hi => by rw [show (u.alloc (.cells #[.int .u8 x] 5)).drew.cell? ⟨u.heap.size, i, none⟩ = (u.alloc (.cells #[.int .u8 x] 5)).cell? ⟨u.heap.size, i, none⟩ from rfl, World.cell?_alloc_new]; match i, hi with | 0, _ => rfl)
theorem D_ne {s : ByteArray} {k : Nat} (h : k < s.size) : D s k ≠ [] := fun e => by
  have := D_len s k; rw [e] at this; simp at this; omega
theorem D_head {s : ByteArray} {k : Nat} (h : k < s.size) : (D s k).head? = some s[k] := by
  have := D_at s k 0 (by omega); rw [List.head?_eq_getElem?]; exact this
theorem D_drop (s : ByteArray) (k n : Nat) : (D s k).drop n = D s (k + n) := by simp [D, List.drop_drop]
theorem ext_list (s : ByteArray) (k n : Nat) (h : k + n ≤ s.size) : (s.extract k (k + n)).data.toList = (D s k).take n := by
  rw [ByteArray.data_extract, Array.toList_extract, List.extract_eq_take_drop]
  congr 1
  omega
/-- One step on, where three alike ones stand. -/
theorem step_alike {s o : ByteArray} {k : Nat} {c : UInt8} (h : k < s.size) (h3 : 3 ≤ run (D s k)) (hc : c = s[k]) (ho : o.data.toList ++ pack (D s k) = pack (D s 0)) (hz : o.size ≤ 2 * k) :
    (o ++ strOfNums [257 - (run (D s k) : Int), (c.toNat : Int)]).data.toList ++ pack (D s (k + run (D s k))) = pack (D s 0) ∧ (o ++ strOfNums [257 - (run (D s k) : Int), (c.toNat : Int)]).size ≤ 2 * (k + run (D s k)) := by
  have hm : many (D s k) = run (D s k) := by unfold many alike; rw [if_pos (decide_eq_true h3)]
  have hl := run_len (D s k)
  have h8 := run_le (D s k)
  constructor
  · rw [← ho, pack_cons (D_ne h), ByteArray.data_append, Array.toList_append, strOfNums_data, hm, D_drop, List.append_assoc]
    congr 2
    unfold enc alike
    rw [if_pos (decide_eq_true h3)]
    have hd : ((D s k).take (run (D s k))).headD 0 = s[k] := by
      rw [List.headD_eq_head?_getD, List.head?_take, if_neg (by omega), D_head h]; rfl
    rw [hd, List.length_take, Nat.min_eq_left hl]
    have e1 : (257 - (run (D s k) : Int)).toNat = 257 - run (D s k) := by omega
    simp only [List.map_cons, List.map_nil]
    rw [e1, Int.toNat_natCast, UInt8.ofNat_toNat, hc]
  · rw [ByteArray.size_append, strOfNums_size]
    simp
    omega
theorem step_others {s o : ByteArray} {k : Nat} (h : k < s.size) (h3 : ¬ 3 ≤ run (D s k)) (ho : o.data.toList ++ pack (D s k) = pack (D s 0)) (hz : o.size ≤ 2 * k) :
    (o ++ strOfNums [(oth 128 (D s k) : Int) - 1] ++ s.extract k (k + oth 128 (D s k))).data.toList ++ pack (D s (k + oth 128 (D s k))) = pack (D s 0) ∧ (o ++ strOfNums [(oth 128 (D s k) : Int) - 1] ++ s.extract k (k + oth 128 (D s k))).size ≤ 2 * (k + oth 128 (D s k)) := by
  have hm : many (D s k) = oth 128 (D s k) := by unfold many alike; rw [if_neg (by simp; omega)]
  have hl := oth_len 128 (D s k)
  rw [D_len] at hl
  have hp := oth_pos (D_ne h) (by omega)
  constructor
  · rw [← ho, pack_cons (D_ne h), ByteArray.data_append, ByteArray.data_append, Array.toList_append, Array.toList_append, strOfNums_data, hm, D_drop, ext_list s k _ (by omega)]
    simp only [List.append_assoc]
    congr 1
    rw [← List.append_assoc]
    congr 1
    unfold enc alike
    rw [if_neg (by simp; omega), List.length_take, Nat.min_eq_left (by rw [D_len]; omega)]
    have e1 : ((oth 128 (D s k) : Int) - 1).toNat = oth 128 (D s k) - 1 := by omega
    simp only [List.map_cons, List.map_nil, List.cons_append, List.nil_append]
    rw [e1]
  · rw [ByteArray.size_append, ByteArray.size_append, strOfNums_size, ByteArray.size_extract]
    simp
    omega
/-- What is told of a text: the bytes, and whether it is so. -/
def packV (s : ByteArray) : ByteArray := if s.size ≤ 20000 then ⟨(pack (D s 0)).toArray⟩ else ⟨#[]⟩
def packB (s : ByteArray) : Bool := decide (s.size ≤ 20000)
theorem ret_two {a b : ByteArray} {p q : Bool} (h : a = b) (h' : p = q) : Ending.returned (.tuple #[.string a, .bool p]) = .returned (.tuple #[.string b, .bool q]) := by rw [h, h']
theorem pack_end {s o : ByteArray} {k : Nat} (hs : s.size ≤ 20000) (h : ¬ k < s.size) (ho : o.data.toList ++ pack (D s k) = pack (D s 0)) : o = packV s := by
  have e : D s k = [] := List.eq_nil_of_length_eq_zero (by rw [D_len]; omega)
  unfold packV
  rw [if_pos hs, ← ho, e]
  apply ByteArray.ext
  simp [pack, RunsOf_nil]
set_option maxHeartbeats 2000000 in
theorem specPacked_any (s : ByteArray) (w : World) (hs : s.size ≤ 1048576) :
    Calls Try.prog 7 #[.string s] w fun e w' => e = .returned (.tuple #[.string (packV s), .bool (packB s)]) ∧ Below w.heap.size w w' := by
  by_cases hbig : 20000 < s.size
  · have e1 : Hid (packV s = ⟨#[]⟩) := if_neg (by omega)
    have e2 : Hid (packB s = false) := decide_eq_false (by omega)
    go_enter Try.func7, Try.ntmps7
    go_wp2
    go_ret2
    exact ⟨ret_two e1.out.symm e2.out.symm, Below.refl _ _⟩
  have e2 : Hid (packB s = true) := decide_eq_true (by omega)
  go_enter Try.func7, Try.ntmps7
  go_wp2
  go_loopw [4, 5] (fun v i wr => ∃ (k : Nat) (o : ByteArray), k ≤ s.size ∧ i = .int .i64 k ∧ v = .string o ∧ o.size ≤ 2 * k ∧ Hid (o.data.toList ++ pack (D s k) = pack (D s 0)) ∧ Hid (Below w.heap.size w wr)) (fun _ i _ => s.size - (intOf i).toNat)
  case atStart => exact ⟨0, ⟨#[]⟩, Nat.zero_le _, rfl, rfl, Nat.zero_le _, rfl, Below.refl _ _⟩
  case round =>
    obtain ⟨k, o, hk, rfl, rfl, hz, ho, hbel⟩ := hrel
    by_cases hlt : k < s.size
    · have c := fun w => l15Run_any s k w hlt hs
      have SA : Hid (3 ≤ run (D s k) → (o ++ strOfNums [257 - (run (D s k) : Int), (s[k].toNat : Int)]).data.toList ++ pack (D s (k + run (D s k))) = pack (D s 0) ∧ (o ++ strOfNums [257 - (run (D s k) : Int), (s[k].toNat : Int)]).size ≤ 2 * (k + run (D s k))) := fun h => step_alike hlt h rfl ho.out hz
      have SO : Hid (¬ 3 ≤ run (D s k) → (o ++ strOfNums [(oth 128 (D s k) : Int) - 1] ++ s.extract k (k + oth 128 (D s k))).data.toList ++ pack (D s (k + oth 128 (D s k))) = pack (D s 0) ∧ (o ++ strOfNums [(oth 128 (D s k) : Int) - 1] ++ s.extract k (k + oth 128 (D s k))).size ≤ 2 * (k + oth 128 (D s k))) := fun h => step_others hlt h ho.out hz
      have h8 := run_le (D s k)
      have hl := run_len (D s k)
      rw [D_len] at hl
      have OE : Hid (∀ n, n ≤ 128 → k + n ≤ s.size → (∀ i, i < n → run (D s (k + i)) < 3) → (k + n = s.size ∨ n = 128 ∨ 3 ≤ run (D s (k + n))) → oth 128 (D s k) = n) := fun n h1 h2 h3 h4 =>
        oth_eq 128 (D s k) n h1 (by rw [D_len]; omega) (fun i hi => by rw [D_drop]; exact h3 i hi) (by rw [D_drop, D_len]; omega)
      have M1 : Hid (¬ 3 ≤ run (D s k) → 1 ≤ oth 128 (D s k)) := fun h => oth_pos (D_ne hlt) (by omega)
      generalize run (D s k) = r at *
      generalize oth 128 (D s k) = m at *
      clear ho
      by_cases h3 : 3 ≤ r
      · obtain ⟨s1, s2⟩ := SA.out h3
        have S1 : Hid ((o ++ strOfNums [257 - (r : Int), (s[k].toNat : Int)]).data.toList ++ pack (D s (k + r)) = pack (D s 0)) := s1
        clear s1 SA SO OE M1
        have cv2 := conv2
        have h3' : (2 : Int) < (r : Int) := by omega
        have z2 : ∀ x y : Int, (strOfNums [x, y]).size = 2 := fun _ _ => strOfNums_size _
        go_wp2_with (go_at_call 14; refine (c _).mono ?_; rintro e w1 ⟨rfl, n1, hn1⟩; have hb1 : Hid (Below w.heap.size w w1) := (by rw [hn1]; exact drewN_below hbel.out _); clear hn1 c)
        all_goals first | exact ⟨⟨k + r, _, by omega, by go_num, rfl, s2, S1.out, hb1.out.alloc hb1.out.size _⟩, by simp [intOf]; omega⟩
      · have S0 : Hid _ := SO.out h3
        have h3' : ¬ (2 : Int) < (r : Int) := by omega
        clear SA SO
        go_wp2_with (go_at_call 14; refine (c _).mono ?_; rintro e w1 ⟨rfl, n1, hn1⟩; have hb1 : Hid (Below w.heap.size w w1) := (by rw [hn1]; exact drewN_below hbel.out _); clear hn1)
        clear c hbel
        have cv1 := conv1
        go_loopw [7] (fun i wr => ∃ (n j : Nat), n ≤ 128 ∧ j ≤ s.size ∧ i = .int .i64 (j : Int) ∧ Hid (j = k + n) ∧ Hid (∀ i, i < n → run (D s (k + i)) < 3) ∧ Hid (Below w.heap.size w wr)) (fun i _ => s.size - (intOf i).toNat)
        case atStart => exact ⟨0, k, by omega, by omega, rfl, rfl, fun i h => absurd h (Nat.not_lt_zero _), hb1.out⟩
        case round =>
          clear hb1
          obtain ⟨n, j, hn8, hns, rfl, HJ, hall, hbel⟩ := hrel
          have ej : (j : Int) - (k : Int) = (n : Int) := by have := HJ.out; omega
          have ew : IntKind.i64.wrap (n : Int) = (n : Int) := by rw [IntKind.wrap_i64]; omega
          have FIN : Hid ((k + n = s.size ∨ n = 128 ∨ 3 ≤ run (D s (k + n))) → m = n) := fun h => OE.out n hn8 (by have := HJ.out; omega) hall.out h
          have e8 : (IntKind.i64.wrap ((n : Int) - 1)) = (n : Int) - 1 := by rw [IntKind.wrap_i64]; omega
          by_cases c1 : j < s.size
          · have d1 : decide ((j : Int) < (s.size : Int)) = true := decide_eq_true (by omega)
            have cj := fun w => l15Run_any s j w c1 hs
            have RJ : Hid (run (D s j) = run (D s (k + n))) := by rw [HJ.out]; exact rfl
            have q8 := run_le (D s j)
            generalize run (D s j) = q at *
            by_cases c2 : n < 128
            · have d2 : decide ((n : Int) < 128) = true := decide_eq_true (by omega)
              by_cases c3 : q < 3
              · have d3 : decide ((q : Int) < 3) = true := decide_eq_true (by omega)
                have HN : Hid (∀ i, i < n + 1 → run (D s (k + i)) < 3) := fun i hi => by
                  rcases Nat.lt_or_ge i n with h' | h'
                  · exact hall.out i h'
                  · obtain rfl : i = n := by omega
                    rw [← RJ.out]; exact c3
                clear FIN hall OE
                go_wp2_with (go_at_call 14; refine (cj _).mono ?_; rintro e w2 ⟨rfl, n2, hn2⟩; have hb2 : Hid (Below w.heap.size w w2) := (by rw [hn2]; exact drewN_below hbel.out _); clear hn2 cj hbel)
                go_roundw
                case rel => exact ⟨n + 1, j + 1, by omega, by omega, by go_num, by have := HJ.out; show _ = _; omega, HN.out, hb2.out⟩
                case measure => simp [intOf]; omega
              · have d3 : decide ((q : Int) < 3) = false := decide_eq_false (by omega)
                have EM : Hid (m = n) := FIN.out (.inr (.inr (by rw [← RJ.out]; omega)))
                have ST : Hid ((o ++ strOfNums [(n : Int) - 1] ++ s.extract k j).data.toList ++ pack (D s j) = pack (D s 0) ∧ (o ++ strOfNums [(n : Int) - 1] ++ s.extract k j).size ≤ 2 * j) := by have := S0.out; rw [EM.out, ← HJ.out] at this; exact this
                clear FIN hall OE S0
                have z1 : ∀ x : Int, (strOfNums [x]).size = 1 := fun _ => strOfNums_size _
                have zx : (s.extract k j).size ≤ 128 := by rw [ByteArray.size_extract]; have := HJ.out; omega
                have k0 : (k : Int) ≤ (j : Int) := by have := HJ.out; omega
                have n1 : 1 ≤ n := by rw [← EM.out]; exact M1.out h3
                have HK : Hid (k < j) := by have := HJ.out; show _ < _; omega
                have cvd := conv1d
                have eu : IntKind.u8.wrap ((n : Int) - 1) = (n : Int) - 1 := by rw [IntKind.wrap_u8]; omega
                go_wp2_with (go_at_call 14; refine (cj _).mono ?_; rintro e w2 ⟨rfl, n2, hn2⟩; have hb2 : Hid (Below w.heap.size w w2) := (by rw [hn2]; exact drewN_below hbel.out _); clear hn2 cj hbel)
                go_region_with (fail)
                all_goals go_wp2
                all_goals exact ⟨⟨j, _, by omega, rfl, rfl, ST.out.2, ST.out.1, (hb2.out.alloc hb2.out.size _).drew⟩, by have := HK.out; simp [intOf]; omega⟩
            · have d2 : decide ((n : Int) < 128) = false := decide_eq_false (by omega)
              have EM : Hid (m = n) := FIN.out (.inr (.inl (by omega)))
              have ST : Hid ((o ++ strOfNums [(n : Int) - 1] ++ s.extract k j).data.toList ++ pack (D s j) = pack (D s 0) ∧ (o ++ strOfNums [(n : Int) - 1] ++ s.extract k j).size ≤ 2 * j) := by have := S0.out; rw [EM.out, ← HJ.out] at this; exact this
              clear FIN hall OE S0
              have z1 : ∀ x : Int, (strOfNums [x]).size = 1 := fun _ => strOfNums_size _
              have zx : (s.extract k j).size ≤ 128 := by rw [ByteArray.size_extract]; have := HJ.out; omega
              have k0 : (k : Int) ≤ (j : Int) := by have := HJ.out; omega
              have n1 : 1 ≤ n := by rw [← EM.out]; exact M1.out h3
              have HK : Hid (k < j) := by have := HJ.out; show _ < _; omega
              have cvd := conv1d
              have eu : IntKind.u8.wrap ((n : Int) - 1) = (n : Int) - 1 := by rw [IntKind.wrap_u8]; omega
              go_wp2_with fail
              go_region_with (fail)
              all_goals go_wp2
              all_goals exact ⟨⟨j, _, by omega, rfl, rfl, ST.out.2, ST.out.1, (hbel.out.alloc hbel.out.size _).drew⟩, by have := HK.out; simp [intOf]; omega⟩
          · have d1 : decide ((j : Int) < (s.size : Int)) = false := decide_eq_false (by omega)
            have EM : Hid (m = n) := FIN.out (.inl (by have := HJ.out; omega))
            have ST : Hid ((o ++ strOfNums [(n : Int) - 1] ++ s.extract k j).data.toList ++ pack (D s j) = pack (D s 0) ∧ (o ++ strOfNums [(n : Int) - 1] ++ s.extract k j).size ≤ 2 * j) := by have := S0.out; rw [EM.out, ← HJ.out] at this; exact this
            clear FIN hall OE S0
            have z1 : ∀ x : Int, (strOfNums [x]).size = 1 := fun _ => strOfNums_size _
            have zx : (s.extract k j).size ≤ 128 := by rw [ByteArray.size_extract]; have := HJ.out; omega
            have k0 : (k : Int) ≤ (j : Int) := by have := HJ.out; omega
            have n1 : 1 ≤ n := by rw [← EM.out]; exact M1.out h3
            have HK : Hid (k < j) := by have := HJ.out; show _ < _; omega
            have cvd := conv1d
            have eu : IntKind.u8.wrap ((n : Int) - 1) = (n : Int) - 1 := by rw [IntKind.wrap_u8]; omega
            go_wp2_with fail
            go_region_with (fail)
            all_goals go_wp2
            all_goals exact ⟨⟨j, _, by omega, rfl, rfl, ST.out.2, ST.out.1, (hbel.out.alloc hbel.out.size _).drew⟩, by have := HK.out; simp [intOf]; omega⟩
    · have HE : Hid (o = packV s) := pack_end (by omega) hlt ho.out
      go_wp2
      go_ret2
      exact ⟨ret_two HE.out e2.out.symm, hbel.out⟩
end Go.Proofs.Ytbffchfadockmaa.Paks
