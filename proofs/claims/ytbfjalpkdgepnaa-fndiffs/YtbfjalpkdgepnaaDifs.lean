/-
  Contracts of ours for spec.l14Num, impl.highestFirst and spec.DiffOf, at every text.
-/
import Derived.Test.YtbfjalpkdgepnaaDifp
import Derived.Test.YtbfjalpkdgepnaaRowb
import Derived.Laws.Shifts
import Derived.ProofKit
import Derived.OpenShut
import Derived.ShutString
import Derived.Outline
import Derived.WalkLawsBesides
import Derived.BigQuiet
import Derived.Deep.RegionWith
import Derived.Deep.QuietTactic
import Derived.Below
import Derived.OneCell
import Derived.Laws.Rows
import Derived.Laws.BytesArg
import Derived.Deep.Strs
import Derived.ChangeOld
import Derived.LoopN
import Derived.Lib.UnsafeStr
import Derived.Lib.AppendStr
namespace Go.Proofs.Ytbfjalpkdgepnaa.Difs
open Go.ChangeShapes Go.WideShapes Go.ChangeAt Go.RowKit Go.Deep
open Difp
set_option linter.unusedVariables false
set_option maxRecDepth 20000
theorem drewN_below {B : Nat} {a b : World} (h : Below B a b) (n : Nat) : Below B a (b.drewN n) := ⟨h.os, h.tape, h.output, h.size, h.block⟩
theorem ret_two {a b : ByteArray} {p q : Bool} (h : a = b) (h' : p = q) : Ending.returned (.tuple #[.string a, .bool p]) = .returned (.tuple #[.string b, .bool q]) := by rw [h, h']
def S3 (n : Nat) : ByteArray := ⟨(n3 n).toArray⟩
def S2 (n : Nat) : ByteArray := ⟨(n2 n).toArray⟩
theorem conv {W : World} {B n cap : Nat} (l : List Int) (hl : l.length = n) (h : ∀ i (hi : i < n), W.cell? ⟨B, i, none⟩ = some (.int .u8 (l.getD i 0))) :
    (convert 25 9 (.slice (some ⟨B, 0, none⟩) n cap)).run Try.prog W = .ok (.string (strOfNums l)) W := by
  subst hl
  exact run_convert_bytes_arg _ 25 5 Try.underlying25 Try.underlying5 B 0 _ cap l rfl (fun i hi => by rw [Nat.zero_add]; exact h i hi) 9 Try.underlying9
theorem conv1 (u : World) (x : Int) : (convert 25 9 (.slice (some ⟨u.heap.size, 0, none⟩) 1 1)).run Try.prog (u.alloc (.cells #[.int .u8 x] 5)) = .ok (.string (strOfNums [x])) (u.alloc (.cells #[.int .u8 x] 5)) :=
  conv [x] rfl (fun i hi => by rw [World.cell?_alloc_new]; match i, hi with | 0, _ => rfl)
/-- The low j bytes of a number, the highest first. -/
def lowL : Nat → Nat → List UInt8
  | 0, _ => []
  | j + 1, n => UInt8.ofNat (n / 256 ^ j % 256) :: lowL j n
theorem lowL_len : ∀ j n, (lowL j n).length = j
  | 0, _ => rfl
  | j + 1, n => by simp [lowL, lowL_len j n]
theorem low3 (n : Nat) : lowL 3 n = n3 n := by simp [lowL, n3]
theorem low2 (n : Nat) : lowL 2 n = n2 n := by simp [lowL, n2]
theorem nums_one (x : Nat) (s : ByteArray) (L : List UInt8) (h : s.data.toList = L) : (strOfNums [((x % 256 : Nat) : Int)] ++ s).data.toList = UInt8.ofNat (x % 256) :: L := by
  rw [ByteArray.data_append, Array.toList_append, strOfNums_data, h]
  simp only [List.map_cons, List.map_nil, Int.toNat_natCast]
  rfl
theorem str_of {s : ByteArray} {L : List UInt8} (h : s.data.toList = L) : s = ⟨L.toArray⟩ := by
  apply ByteArray.ext; rw [← h]
set_option maxHeartbeats 1000000 in
theorem num_any (n m : Nat) (w : World) (h : n ≤ 16777216) (hm : m ≤ 3) :
    Calls Try.prog 14 #[.int .i64 (n : Int), .int .i64 (m : Int)] w fun e w' => e = .returned (.string ⟨(lowL m n).toArray⟩) ∧ Below w.heap.size w w' := by
  have cv1 := conv1
  have z1 : ∀ x : Int, (strOfNums [x]).size = 1 := fun _ => strOfNums_size _
  go_enter Try.func14, Try.ntmps14
  go_wp2
  go_loopw [0, 5, 6] (fun x v i wr => ∃ (j q : Nat) (s : ByteArray), j ≤ m ∧ i = .int .i64 j ∧ x = .int .i64 q ∧ v = .string s ∧ q ≤ 16777216 ∧ s.size ≤ 3 ∧ Hid (s.size = j) ∧ Hid (q = n / 256 ^ j) ∧ Hid (s.data.toList = lowL j n) ∧ Hid (Below w.heap.size w wr)) (fun _ _ i _ => m - (intOf i).toNat)
  case atStart => exact ⟨0, n, ⟨#[]⟩, Nat.zero_le _, rfl, rfl, rfl, h, by decide, rfl, by show _ = _; simp, rfl, Below.refl _ _⟩
  case round =>
    obtain ⟨j, q, s, hj, rfl, rfl, rfl, hq5, hs3, hsz, hq, hs, hbel⟩ := hrel
    by_cases hlt : j < m
    · have hlt' : (j : Int) < (m : Int) := by omega
      have HN : Hid ((strOfNums [((q % 256 : Nat) : Int)] ++ s).data.toList = lowL (j + 1) n) := by
        show _ = _
        rw [nums_one q s _ hs.out, hq.out]; rfl
      have HQ : Hid (q / 256 = n / 256 ^ (j + 1)) := by
        show _ = _
        rw [hq.out, Nat.div_div_eq_div_mul, ← Nat.pow_succ]
      have HZ : Hid ((strOfNums [((q % 256 : Nat) : Int)] ++ s).size = j + 1) := by show _ = _; rw [ByteArray.size_append, strOfNums_size, hsz.out]; simp; omega
      obtain ⟨r, hr⟩ : ∃ r : Nat, r = q % 256 := ⟨_, rfl⟩
      obtain ⟨d, hd⟩ : ∃ d : Nat, d = q / 256 := ⟨_, rfl⟩
      have er : (q : Int) % 256 = (r : Int) := by omega
      have er2 : IntKind.u8.wrap (q : Int) = (r : Int) := by rw [IntKind.wrap_u8]; omega
      have ed : (q : Int) / 256 = (d : Int) := by omega
      have ed2 : (q : Int).tdiv 256 = (d : Int) := by rw [Int.tdiv_eq_ediv_of_nonneg (by omega)]; omega
      rw [← hr] at HN HZ
      rw [← hd] at HQ
      have hd5 : d ≤ 16777216 := by omega
      clear hs hq hr hd hsz
      go_wp2
      go_roundw
      case rel => exact ⟨j + 1, d, _, by omega, by go_num, rfl, rfl, hd5, by rw [HZ.out]; omega, HZ.out, HQ.out, HN.out, hbel.out.alloc hbel.out.size _⟩
      case measure => simp [intOf]; omega
    · have hlt' : ¬ (j : Int) < (m : Int) := by omega
      have HE : Hid (s = ⟨(lowL m n).toArray⟩) := by
        have e : j = m := by omega
        rw [← e]; exact str_of hs.out
      go_wp2
      go_ret
      exact ⟨by rw [← HE.out]; rfl, hbel.out⟩
theorem drop_set {l : List UInt8} {k : Nat} (b : UInt8) (hk : k < l.length) : (l.set k b).drop k = b :: l.drop (k + 1) := by
  rw [List.drop_eq_getElem_cons (by rw [List.length_set]; exact hk), List.getElem_set_self, List.drop_set_of_lt (by omega)]
set_option maxHeartbeats 1000000 in
theorem high_any (n m : Nat) (w : World) (h : n ≤ 16777216) (hm : m ≤ 3) :
    Calls Try.prog 17 #[.int .i64 (n : Int), .int .i64 (m : Int)] w fun e w' => e = .returned (.string ⟨(lowL m n).toArray⟩) ∧ Below w.heap.size w w' := by
  obtain ⟨o, ho⟩ := Rowb.made m (by omega)
  have hmk := fun u => (ho u).1
  have R0 : Hid (Rowb.Row (w.alloc o) w.heap.size (List.replicate m 0)) := (ho w).2
  clear ho
  go_enter Try.func17, Try.ntmps17
  go_wp2
  go_loopw [0, 6] (fun x i wr => ∃ (j q : Nat) (l : List UInt8), j ≤ m ∧ i = .int .i64 ((m : Int) - 1 - (j : Int)) ∧ x = .int .i64 q ∧ q ≤ 16777216 ∧ Hid (q = n / 256 ^ j) ∧ Hid (l.length = m) ∧ Hid (l.drop (m - j) = lowL j n) ∧ Hid (Rowb.Row wr w.heap.size l) ∧ Hid (Below w.heap.size w wr)) (fun _ i _ => (intOf i + 1).toNat)
  case atStart => exact ⟨0, n, List.replicate m 0, Nat.zero_le _, by simp, rfl, h, by show _ = _; simp, by show _ = _; simp, by show _ = _; simp [lowL], R0.out, (Below.refl _ _).alloc (Nat.le_refl _) _⟩
  case round =>
    obtain ⟨j, q, l, hj, rfl, rfl, hq5, hq, hl, hd, hrow, hbel⟩ := hrel
    by_cases hlt : j < m
    · obtain ⟨k, hk⟩ : ∃ k : Nat, k + j + 1 = m := ⟨m - 1 - j, by omega⟩
      have ek : (m : Int) - 1 - (j : Int) = (k : Int) := by omega
      obtain ⟨r, hr⟩ : ∃ r : Nat, r = q % 256 := ⟨_, rfl⟩
      obtain ⟨d, hdd⟩ : ∃ d : Nat, d = q / 256 := ⟨_, rfl⟩
      have er2 : IntKind.u8.wrap (q : Int) = (r : Int) := by rw [IntKind.wrap_u8]; omega
      have k1 : (k : Int) < (m : Int) := by omega
      have k0 : (0 : Int) ≤ (k : Int) := by omega
      have hkl : k < l.length := by rw [hl.out]; omega
      obtain ⟨cv, c0⟩ : ∃ cv, wr.cell? ⟨w.heap.size, k, none⟩ = some (.int .u8 cv) := ⟨_, Rowb.cell_at hrow.out k hkl⟩
      have f0 := Rowb.free_at hrow.out k
      have HR : Hid (Rowb.Row (wr.setCell ⟨w.heap.size, k, none⟩ (.int .u8 (r : Int))) w.heap.size (l.set k (Rowb.u8 (r : Int)))) := Rowb.put_at hrow.out k hkl _ (by omega) (by omega)
      have HD : Hid ((l.set k (Rowb.u8 (r : Int))).drop (m - (j + 1)) = lowL (j + 1) n) := by
        show _ = _
        rw [show m - (j + 1) = k by omega, drop_set _ hkl, show k + 1 = m - j by omega, hd.out]
        unfold Rowb.u8
        rw [Int.toNat_natCast, hr, hq.out]; rfl
      have HL : Hid ((l.set k (Rowb.u8 (r : Int))).length = m) := by show _ = _; rw [List.length_set, hl.out]
      have HQ : Hid (d = n / 256 ^ (j + 1)) := by
        show _ = _
        rw [hdd, hq.out, Nat.div_div_eq_div_mul, ← Nat.pow_succ]
      have hd5 : d ≤ 16777216 := by omega
      have es : (q : Int) >>> 8 = (d : Int) := by rw [Int.shiftRight_eq_div_pow]; omega
      have ed : (q : Int) / 256 = (d : Int) := by omega
      have HK : Hid (k + j + 1 = m) := hk
      clear hr hdd hq hl hd hkl hk
      go_wp2
      go_roundw
      case rel => exact ⟨j + 1, d, _, by omega, by congr 1; have := HK.out; omega, rfl, hd5, HQ.out, HL.out, HD.out, HR.out, hbel.out.setCell (Nat.le_refl _) _⟩
      case measure => have := HK.out; simp [intOf]; omega
    · have ek : (m : Int) - 1 - (j : Int) = -1 := by omega
      have ej : j = m := by omega
      have hcv := Rowb.str_at hrow.out m m hl.out
      have HE : Hid (l = lowL m n) := by
        have := hd.out
        rw [ej, Nat.sub_self, List.drop_zero] at this
        exact this
      go_wp2
      go_ret
      exact ⟨by rw [← HE.out]; rfl, hbel.out⟩
theorem n3_any (n : Nat) (w : World) (h : n ≤ 16777216) : Calls Try.prog 14 #[.int .i64 (n : Int), .int .i64 3] w fun e w' => e = .returned (.string (S3 n)) ∧ Below w.heap.size w w' := by
  have := num_any n 3 w h (by omega); rw [low3] at this; exact this
theorem n2_any (n : Nat) (w : World) (h : n ≤ 16777216) : Calls Try.prog 14 #[.int .i64 (n : Int), .int .i64 2] w fun e w' => e = .returned (.string (S2 n)) ∧ Below w.heap.size w w' := by
  have := num_any n 2 w h (by omega); rw [low2] at this; exact this
theorem h3_any (n : Nat) (w : World) (h : n ≤ 16777216) : Calls Try.prog 17 #[.int .i64 (n : Int), .int .i64 3] w fun e w' => e = .returned (.string (S3 n)) ∧ Below w.heap.size w w' := by
  have := high_any n 3 w h (by omega); rw [low3] at this; exact this
theorem h2_any (n : Nat) (w : World) (h : n ≤ 16777216) : Calls Try.prog 17 #[.int .i64 (n : Int), .int .i64 2] w fun e w' => e = .returned (.string (S2 n)) ∧ Below w.heap.size w w' := by
  have := high_any n 2 w h (by omega); rw [low2] at this; exact this
theorem s3_size (n : Nat) : (S3 n).size = 3 := rfl
theorem s2_size (n : Nat) : (S2 n).size = 2 := rfl
theorem eq_byte {a b : UInt8} : (a.toNat : Int) = (b.toNat : Int) ↔ a = b := by
  constructor
  · intro h; apply UInt8.toNat_inj.1; omega
  · rintro rfl; rfl
theorem alike_of {a b : ByteArray} {k : Nat} (h : k < b.size) : (alike a b k = true ∧ ∃ h1 : k < a.size, (a[k].toNat : Int) = (b[k].toNat : Int)) ∨ (alike a b k = false ∧ (a.size ≤ k ∨ ∃ h1 : k < a.size, ¬ (a[k].toNat : Int) = (b[k].toNat : Int))) := by
  by_cases h1 : k < a.size
  · by_cases h2 : a[k] = b[k]
    · exact .inl ⟨decide_eq_true ⟨h1, h, h2⟩, h1, eq_byte.2 h2⟩
    · exact .inr ⟨decide_eq_false (fun ⟨_, _, h3⟩ => h2 h3), .inr ⟨h1, fun h3 => h2 (eq_byte.1 h3)⟩⟩
  · exact .inr ⟨decide_eq_false (fun ⟨h2, _⟩ => h1 h2), .inl (by omega)⟩
/-- One piece more. -/
theorem step_piece {a b o : ByteArray} {k n : Nat} (h : k < b.size) (hn : gap a b k = n) (h0 : n ≠ 0) (ho : o.data.toList ++ (body (Pieces a b k) ++ ([69, 78, 68] ++ n3 b.size)) = diffL a b) :
    (o ++ S3 k ++ S2 n ++ b.extract k (k + n)).data.toList ++ (body (Pieces a b (k + n)) ++ ([69, 78, 68] ++ n3 b.size)) = diffL a b := by
  obtain ⟨h1, _⟩ := gap_spec (a := a) (b := b) (k := k) (by omega)
  rw [hn] at h1
  have z : (b.extract k (k + n)).size = n := by rw [ByteArray.size_extract]; omega
  have e : body (Pieces a b k) = enc (k, b.extract k (k + n)) ++ body (Pieces a b (k + n)) := by
    have := pieces_at h (by rw [hn]; exact h0)
    rw [hn] at this
    rw [this, pieces_one h (by rw [hn]; exact h0), hn]
    simp [body]
  rw [← ho, e]
  unfold enc
  simp only [ByteArray.data_append, Array.toList_append, List.append_assoc, z]
  rfl
theorem step_skip {a b o : ByteArray} {k : Nat} (h : k < b.size) (hn : gap a b k = 0) (ho : o.data.toList ++ (body (Pieces a b k) ++ ([69, 78, 68] ++ n3 b.size)) = diffL a b) : o.data.toList ++ (body (Pieces a b (k + 1)) ++ ([69, 78, 68] ++ n3 b.size)) = diffL a b := by
  rw [← pieces_skip h hn]; exact ho
theorem fin {a b o : ByteArray} {k : Nat} (h : ¬ k < b.size) (ho : o.data.toList ++ (body (Pieces a b k) ++ ([69, 78, 68] ++ n3 b.size)) = diffL a b) (hab : okAB a b) : o ++ ⟨#[69, 78, 68]⟩ ++ S3 b.size = outV a b := by
  rw [(out_yes hab).1, ← ho, pieces_end h]
  apply ByteArray.ext
  apply Array.toList_inj.1
  simp [ByteArray.data_append, body, S3]
set_option maxHeartbeats 2000000 in
theorem specDiff_any (a b : ByteArray) (w : World) (ha : a.size ≤ 1048576) (hb : b.size ≤ 1048576) :
    Calls Try.prog 7 #[.string a, .string b] w fun e w' => e = .returned (.tuple #[.string (outV a b), .bool (outB a b)]) ∧ Below w.heap.size w w' := by
  by_cases hab : okAB a b
  · have HAB : Hid (okAB a b) := hab
    have e2 : Hid (outB a b = true) := (out_yes hab).2
    have a2 : a.size ≤ 20000 := hab.1
    have b2 : b.size ≤ 20000 := hab.2
    clear hab
    go_enter Try.func7, Try.ntmps7
    go_wp2
    go_loopw [6, 7] (fun v i wr => ∃ (k : Nat) (o : ByteArray), k ≤ b.size ∧ i = .int .i64 k ∧ v = .string o ∧ o.size ≤ 4 + 6 * k ∧ Hid (o.data.toList ++ (body (Pieces a b k) ++ ([69, 78, 68] ++ n3 b.size)) = diffL a b) ∧ Hid (Below w.heap.size w wr)) (fun _ i _ => b.size - (intOf i).toNat)
    case atStart => exact ⟨0, ⟨#[68, 73, 70, 70]⟩, Nat.zero_le _, rfl, rfl, by decide, rfl, Below.refl _ _⟩
    case round =>
      obtain ⟨k, o, hk, rfl, rfl, hz, ho, hbel⟩ := hrel
      by_cases hlt : k < b.size
      · have SP : Hid (∀ n, gap a b k = n → n ≠ 0 → (o ++ S3 k ++ S2 n ++ b.extract k (k + n)).data.toList ++ (body (Pieces a b (k + n)) ++ ([69, 78, 68] ++ n3 b.size)) = diffL a b) := fun n h h' => step_piece hlt h h' ho.out
        have SS : Hid (gap a b k = 0 → o.data.toList ++ (body (Pieces a b (k + 1)) ++ ([69, 78, 68] ++ n3 b.size)) = diffL a b) := fun h => step_skip hlt h ho.out
        clear ho
        go_wp2
        go_loopw [8] (fun i wr => ∃ (n j : Nat), j ≤ b.size ∧ i = .int .i64 (j : Int) ∧ Hid (j = k + n) ∧ Hid (∀ i, i < n → alike a b (k + i) = false) ∧ Hid (Below w.heap.size w wr)) (fun i _ => b.size - (intOf i).toNat)
        case atStart => exact ⟨0, k, by omega, rfl, rfl, fun i h => absurd h (Nat.not_lt_zero _), hbel.out⟩
        case round =>
          clear hbel
          obtain ⟨n, j, hj, rfl, HJ, hall, hbel⟩ := hrel
          have j0 : (0 : Int) ≤ (j : Int) := by omega
          have STOP : Hid (b.size ≤ j ∨ alike a b j = true → gap a b k = n) := fun h => gap_eq (by have := HJ.out; omega) hall.out (by rw [← HJ.out]; exact h)
          by_cases c1 : j < b.size
          · have d1 : decide ((j : Int) < (b.size : Int)) = true := decide_eq_true (by omega)
            have j1 : (j : Int) < (b.size : Int) := by omega
            rcases alike_of (a := a) c1 with ⟨al, h1, h2⟩ | ⟨al, h1⟩
            · have d2 : decide ((a.size : Int) ≤ (j : Int)) = false := decide_eq_false (by omega)
              have j2 : (j : Int) < (a.size : Int) := by omega
              have d3 : ((a[j].toNat : Int) != (b[j].toNat : Int)) = false := by simp [h2]
              have G : Hid (gap a b k = n) := STOP.out (.inr al)
              clear STOP hall
              go_wp2_with fail
              go_quiet (fail)
              by_cases n0 : n = 0
              · have HS : Hid (o.data.toList ++ (body (Pieces a b (k + 1)) ++ ([69, 78, 68] ++ n3 b.size)) = diffL a b) := SS.out (by rw [G.out]; exact n0)
                have ejk : (j : Int) = (k : Int) := by have := HJ.out; omega
                have ejk' : ((j : Int) == (k : Int)) = true := by simp; omega
                clear SS SP G
                go_wp2
                exact ⟨⟨k + 1, o, by omega, by go_num, rfl, by omega, HS.out, drewN_below hbel.out _⟩, by simp [intOf]; omega⟩
              · have HP : Hid ((o ++ S3 k ++ S2 n ++ b.extract k j).data.toList ++ (body (Pieces a b j) ++ ([69, 78, 68] ++ n3 b.size)) = diffL a b) := by have := SP.out n G.out n0; rw [← HJ.out] at this; exact this
                have ejk : ¬ (j : Int) = (k : Int) := by have := HJ.out; omega
                have ejk' : ((j : Int) == (k : Int)) = false := by simp; omega
                have kj : (k : Int) ≤ (j : Int) := by have := HJ.out; omega
                have en : (j : Int) - (k : Int) = (n : Int) := by have := HJ.out; omega
                have ew : IntKind.i64.wrap (n : Int) = (n : Int) := by rw [IntKind.wrap_i64]; have := HJ.out; omega
                have zx : (b.extract k j).size = n := by rw [ByteArray.size_extract]; have := HJ.out; omega
                have c3 := fun w => n3_any k w (by omega)
                have c2 := fun w => n2_any n w (by have := HJ.out; omega)
                have z3 : ∀ n, (S3 n).size = 3 := fun _ => rfl
                have z2 : ∀ n, (S2 n).size = 2 := fun _ => rfl
                have hn2 : n ≤ 20000 := by have := HJ.out; omega
                clear SS SP G
                go_wp2_with fail
                go_region_with (first
                  | (go_at_call_of 14 (Value.int .i64 3); refine (c3 _).mono ?_; rintro e w3 ⟨rfl, hb3⟩; have B3 : Hid (Below w.heap.size w w3) := hbel.out.trans ⟨hb3.os, hb3.tape, hb3.output, hb3.size, fun k hk => hb3.block k (Nat.lt_of_lt_of_le hk hbel.out.size)⟩; clear hb3)
                  | (go_at_call_of 14 (Value.int .i64 2); refine (c2 _).mono ?_; rintro e w4 ⟨rfl, hb4⟩; have B4 : Hid (Below w.heap.size w w4) := B3.out.trans ⟨hb4.os, hb4.tape, hb4.output, hb4.size, fun k hk => hb4.block k (Nat.lt_of_lt_of_le hk B3.out.size)⟩; clear hb4))
                all_goals go_wp2
                all_goals exact ⟨⟨j, _, by omega, rfl, rfl, by simp only [ByteArray.size_append, z3, z2, zx]; have := HJ.out; omega, HP.out, B4.out⟩, by have := HJ.out; simp [intOf]; omega⟩
            · have HN : Hid (∀ i, i < n + 1 → alike a b (k + i) = false) := fun i hi => by
                rcases Nat.lt_or_ge i n with h' | h'
                · exact hall.out i h'
                · obtain rfl : i = n := by omega
                  rw [← HJ.out]; exact al
              clear STOP hall
              rcases h1 with h1 | ⟨h1, h2⟩
              · have d2 : decide ((a.size : Int) ≤ (j : Int)) = true := decide_eq_true (by omega)
                go_wp2_with fail
                go_quiet (fail)
                go_wp2
                go_roundw
                case rel => exact ⟨n + 1, j + 1, by omega, by go_num, by have := HJ.out; show _ = _; omega, HN.out, drewN_below hbel.out _⟩
                case measure => simp [intOf]; omega
              · have d2 : decide ((a.size : Int) ≤ (j : Int)) = false := decide_eq_false (by omega)
                have j2 : (j : Int) < (a.size : Int) := by omega
                have d3 : ((a[j].toNat : Int) != (b[j].toNat : Int)) = true := by simp [h2]
                go_wp2_with fail
                go_quiet (fail)
                go_wp2
                go_roundw
                case rel => exact ⟨n + 1, j + 1, by omega, by go_num, by have := HJ.out; show _ = _; omega, HN.out, drewN_below hbel.out _⟩
                case measure => simp [intOf]; omega
          · have d1 : decide ((j : Int) < (b.size : Int)) = false := decide_eq_false (by omega)
            have G : Hid (gap a b k = n) := STOP.out (.inl (by omega))
            clear STOP hall
            go_wp2_with fail
            go_quiet (fail)
            by_cases n0 : n = 0
            · have HS : Hid (o.data.toList ++ (body (Pieces a b (k + 1)) ++ ([69, 78, 68] ++ n3 b.size)) = diffL a b) := SS.out (by rw [G.out]; exact n0)
              have ejk : (j : Int) = (k : Int) := by have := HJ.out; omega
              have ejk' : ((j : Int) == (k : Int)) = true := by simp; omega
              clear SS SP G
              go_wp2
              exact ⟨⟨k + 1, o, by omega, by go_num, rfl, by omega, HS.out, drewN_below hbel.out _⟩, by simp [intOf]; omega⟩
            · have HP : Hid ((o ++ S3 k ++ S2 n ++ b.extract k j).data.toList ++ (body (Pieces a b j) ++ ([69, 78, 68] ++ n3 b.size)) = diffL a b) := by have := SP.out n G.out n0; rw [← HJ.out] at this; exact this
              have ejk : ¬ (j : Int) = (k : Int) := by have := HJ.out; omega
              have ejk' : ((j : Int) == (k : Int)) = false := by simp; omega
              have kj : (k : Int) ≤ (j : Int) := by have := HJ.out; omega
              have en : (j : Int) - (k : Int) = (n : Int) := by have := HJ.out; omega
              have ew : IntKind.i64.wrap (n : Int) = (n : Int) := by rw [IntKind.wrap_i64]; have := HJ.out; omega
              have zx : (b.extract k j).size = n := by rw [ByteArray.size_extract]; have := HJ.out; omega
              have c3 := fun w => n3_any k w (by omega)
              have c2 := fun w => n2_any n w (by have := HJ.out; omega)
              have z3 : ∀ n, (S3 n).size = 3 := fun _ => rfl
              have z2 : ∀ n, (S2 n).size = 2 := fun _ => rfl
              have hn2 : n ≤ 20000 := by have := HJ.out; omega
              clear SS SP G
              go_wp2_with fail
              go_region_with (first
                | (go_at_call_of 14 (Value.int .i64 3); refine (c3 _).mono ?_; rintro e w3 ⟨rfl, hb3⟩; have B3 : Hid (Below w.heap.size w w3) := hbel.out.trans ⟨hb3.os, hb3.tape, hb3.output, hb3.size, fun k hk => hb3.block k (Nat.lt_of_lt_of_le hk hbel.out.size)⟩; clear hb3)
                | (go_at_call_of 14 (Value.int .i64 2); refine (c2 _).mono ?_; rintro e w4 ⟨rfl, hb4⟩; have B4 : Hid (Below w.heap.size w w4) := B3.out.trans ⟨hb4.os, hb4.tape, hb4.output, hb4.size, fun k hk => hb4.block k (Nat.lt_of_lt_of_le hk B3.out.size)⟩; clear hb4))
              all_goals go_wp2
              all_goals exact ⟨⟨j, _, by omega, rfl, rfl, by simp only [ByteArray.size_append, z3, z2, zx]; have := HJ.out; omega, HP.out, B4.out⟩, by have := HJ.out; simp [intOf]; omega⟩
      · have HE : Hid (o ++ ⟨#[69, 78, 68]⟩ ++ S3 b.size = outV a b) := fin hlt ho.out HAB.out
        have c3 := fun w => n3_any b.size w (by omega)
        have z3 : ∀ n, (S3 n).size = 3 := fun _ => rfl
        go_wp2_with (go_at_call 14; refine (c3 _).mono ?_; rintro e w3 ⟨rfl, hb3⟩; have B3 : Hid (Below w.heap.size w w3) := hbel.out.trans (hb3.mono hbel.out.size); clear hb3)
        go_ret2
        exact ⟨ret_two HE.out e2.out.symm, B3.out⟩
  · have e1 : Hid (outV a b = ⟨#[]⟩ ∧ outB a b = false) := out_no hab
    by_cases hx : 20000 < a.size
    · have d1 : decide ((20000 : Int) < (a.size : Int)) = true := decide_eq_true (by omega)
      go_enter Try.func7, Try.ntmps7
      go_wp2
      go_ret2
      exact ⟨ret_two e1.out.1.symm e1.out.2.symm, Below.refl _ _⟩
    · have d0 : decide ((20000 : Int) < (a.size : Int)) = false := decide_eq_false (by omega)
      have d1 : decide ((20000 : Int) < (b.size : Int)) = true := decide_eq_true (by unfold okAB at hab; omega)
      go_enter Try.func7, Try.ntmps7
      go_wp2
      go_ret2
      exact ⟨ret_two e1.out.1.symm e1.out.2.symm, Below.refl _ _⟩
end Go.Proofs.Ytbfjalpkdgepnaa.Difs
