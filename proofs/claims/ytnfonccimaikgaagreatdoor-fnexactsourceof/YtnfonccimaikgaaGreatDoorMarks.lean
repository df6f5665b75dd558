/-
  Contracts of ours for the laws' marks on rows of texts: markText, markStringS, heldStringS.
-/
import Derived.Test.YtnfonccimaikgaaGreatDoorTxts
import Derived.Laws.BytesArg
import Derived.Maps.AppendAt
namespace Go.Proofs.YtnfonccimaikgaaGreatDoor.Marks
open Go.ChangeShapes Go.WideShapes Go.ChangeAt Go.RowKit Go.Deep
set_option linter.unusedVariables false
open Txts (Texts)

/-- A number's decimal digits, ahead of a text. -/
def dg (n : Int) (t : ByteArray) : ByteArray := if n ≤ 0 then t else dg (n / 10) (strOfNums [48 + n % 10] ++ t)
termination_by n.toNat
decreasing_by omega
theorem dg_end {n : Int} {t : ByteArray} (h : n ≤ 0) : dg n t = t := by rw [dg, if_pos h]
theorem dg_step {n : Int} {t : ByteArray} (h : ¬ n ≤ 0) : dg n t = dg (n / 10) (strOfNums [48 + n % 10] ++ t) := by rw [dg, if_neg h]
def mark (k : Int) : ByteArray := ⟨#[109]⟩ ++ dg k ⟨#[]⟩
theorem one_size (x : Int) : (strOfNums [x]).size = 1 := strOfNums_size _
theorem cat_size (x : Int) (t : ByteArray) : (strOfNums [x] ++ t).size = t.size + 1 := by rw [ByteArray.size_append, one_size]; omega

set_option maxHeartbeats 400000 in
theorem markText_any (n : Int) (w : World) (h0 : 0 < n) (h1 : n ≤ 1000000000) :
    Calls Tryz.prog 18 #[.int .i64 n] w fun e w' => e = .returned (.string (mark n)) ∧ Below w.heap.size w w' := by
  have hcv : ∀ (u : World) (x : Int), (convert 47 9 (.slice (some ⟨u.heap.size, 0, none⟩) 1 1)).run Tryz.prog (u.alloc (.cells #[.int .u8 x] 5)) = .ok (.string (strOfNums [x])) (u.alloc (.cells #[.int .u8 x] 5)) := fun u x =>
    run_convert_bytes_arg _ 47 5 Tryz.underlying47 Tryz.underlying5 u.heap.size 0 1 1 [x] rfl (fun i hi => by
      rw [Nat.zero_add, World.cell?_alloc_new]
      match i, hi with
      | 0, _ => rfl) 9 Tryz.underlying9
  have hsz := one_size
  obtain ⟨r, hr⟩ : ∃ r, r = dg n ⟨#[]⟩ := ⟨_, rfl⟩
  have hm : mark n = ⟨#[109]⟩ ++ r := by rw [hr]; rfl
  rw [hm]
  clear hm
  go_enter Tryz.func18, Tryz.ntmps18
  go_wp2
  go_loopw [0, 3] (fun v t wr => ∃ (m : Int) (s : ByteArray), 0 ≤ m ∧ (s.size : Int) + m ≤ n ∧ v = .int .i64 m ∧ t = .string s ∧ Hid (r = dg m s) ∧ Hid (Below w.heap.size w wr)) (fun v _ _ => (intOf v).toNat)
  case atStart => exact ⟨n, ⟨#[]⟩, by omega, by show ((0 : Nat) : Int) + n ≤ n; omega, rfl, rfl, hr, Below.refl _ _⟩
  case round =>
    clear hr
    obtain ⟨m, s, hm0, hm1, rfl, rfl, hr, hb⟩ := hrel
    by_cases hlt : 0 < m
    · have HR : Hid (r = dg (m / 10) (strOfNums [48 + m % 10] ++ s)) := by have := hr.out; rw [dg_step (by omega)] at this; exact this
      clear hr
      go_wp2
      go_roundw
      case rel => exact ⟨m / 10, strOfNums [48 + m % 10] ++ s, by omega, by rw [cat_size]; omega, rfl, rfl, HR, hb.out.alloc hb.out.size _⟩
      case measure => simp [intOf]; omega
    · have HR : Hid (r = s) := by have := hr.out; rw [dg_end (by omega)] at this; exact this
      clear hr
      go_wp2
      go_ret
      exact ⟨by rw [HR.out]; rfl, hb.out⟩

def markRow (m : Int) (i : Nat) : List Value := (List.range i).map fun (j : Nat) => Value.string (mark (m + (j : Int)))
def midRow (m : Int) (i : Nat) (L : List Value) : List Value := markRow m i ++ L.drop i
theorem markRow_len (m : Int) (i : Nat) : (markRow m i).length = i := by unfold markRow; simp
theorem mid_get {m : Int} {i : Nat} {L : List Value} (h : i < L.length) : (midRow m i L)[i]? = some L[i] := by
  unfold midRow
  rw [List.getElem?_append_right (by rw [markRow_len]; exact Nat.le_refl _), markRow_len, Nat.sub_self, List.getElem?_drop]
  simp [h]
theorem mid_set {m : Int} {i : Nat} {L : List Value} (h : i < L.length) : (midRow m i L).set i (.string (mark (m + i))) = midRow m (i + 1) L := by
  unfold midRow
  rw [List.set_append_right _ _ (by rw [markRow_len]; exact Nat.le_refl _), markRow_len, Nat.sub_self, List.drop_eq_getElem_cons h, List.set_cons_zero]
  unfold markRow
  rw [List.range_succ, List.map_append, List.append_assoc]
  rfl
theorem mid_end {m : Int} {i : Nat} {L : List Value} (h : ¬ i < L.length) (hi : i ≤ L.length) : midRow m i L = markRow m L.length := by
  have e : i = L.length := by omega
  subst e
  unfold midRow; rw [List.drop_length, List.append_nil]

theorem grown_of_below {w w1 : World} (hb : Below w.heap.size w w1) (row : Option Nat) : w.grownBy w1 row := ⟨hb.os, hb.tape, hb.output, hb.size, fun k hk _ => hb.block k hk⟩
theorem own_below {w w1 : World} {base : Nat} {e : TypeId} {size : Nat} {v : Value} {n : Nat} {xs : List Value} (h : w.ownsRow base e size v n xs) (hb : Below w.heap.size w w1) : w1.ownsRow base e size v n xs :=
  h.kept (grown_of_below hb none) (by cases hv : Value.ownBlock v <;> simp)
theorem grown_set (w : World) (g i : Nat) (u : Value) : w.grownBy (w.setCell ⟨g, i, none⟩ u) (some g) :=
  ⟨rfl, rfl, rfl, by simp [World.setCell], fun k _ hk => Below.heap_setCell _ _ _ _ (fun e => hk (by rw [e]))⟩

set_option maxHeartbeats 2000000 in
theorem markStringS_any (v : Value) (n : Nat) (L : List Value) (base : Nat) (w : World) (hown : w.ownsRow base 9 1 v n L) (hn : n ≤ 10000000) :
    Calls Tryz.prog 8 #[v, .int .i64 1] w fun e w' => e = .returned (.int .i64 (1 + n)) ∧ w'.ownsRow base 9 1 v n (markRow 1 n) ∧ w.grownBy w' v.ownBlock := by
  have hL : L.length = n := by have := hown.1; omega
  rcases hown.2 with ⟨rfl, rfl⟩ | ⟨g, cap, cur, rfl, hbg, hg, hnc, hcm, hcs, htake⟩
  · go_enter Tryz.func8, Tryz.ntmps8
    go_wp2
    go_loopw [1, 5] (fun k i wr => k = .int .i64 1 ∧ i = .int .i64 0 ∧ wr = w) (fun _ _ _ => 0)
    case atStart => exact ⟨rfl, rfl, rfl⟩
    case round =>
      obtain ⟨rfl, rfl, rfl⟩ := hrel
      go_wp2
      go_ret
      exact ⟨rfl, World.ownsRow_nil _ _ _ _, World.grownBy.refl _ _⟩
  clear hg hcs htake hcm
  have HO : Hid (w.ownsRow base 9 1 (.slice (some ⟨g, 0, none⟩) n cap) n L) := hown
  have HL : Hid (L.length = n) := hL
  clear hown hL
  go_enter Tryz.func8, Tryz.ntmps8
  go_wp2
  go_loopw [1, 5] (fun c i wr => ∃ k : Nat, k ≤ n ∧ i = .int .i64 k ∧ c = .int .i64 (1 + (k : Int)) ∧ Hid (wr.ownsRow base 9 1 (.slice (some ⟨g, 0, none⟩) n cap) n (midRow 1 k L)) ∧ Hid (w.grownBy wr (some g))) (fun _ i _ => n - (intOf i).toNat)
  case atStart => exact ⟨0, Nat.zero_le _, rfl, rfl, HO.out, World.grownBy.refl _ _⟩
  case round =>
    obtain ⟨k, hk, rfl, rfl, hown, hgr⟩ := hrel
    clear HO
    by_cases hlt : k < n
    · have hkL : k < L.length := by have := HL.out; omega
      have cm := fun w => markText_any (1 + (k : Int)) w (by omega) (by omega)
      obtain ⟨t, ht⟩ : ∃ t, t = mark (1 + (k : Int)) := ⟨_, rfl⟩
      have HS : Hid ((midRow 1 k L).set k (.string t) = midRow 1 (k + 1) L) := by rw [ht]; exact mid_set hkL
      rw [← ht] at cm
      clear ht
      go_wp2_with fail
      refine (cm _).mono ?_
      rintro e w1 ⟨rfl, hb1⟩
      have own1 := own_below hown.out hb1
      have c0 : w1.cell? ⟨g, k, none⟩ = some L[k] := (own1.cellAt k (by omega)).trans (mid_get hkL)
      have f0 : w1.frozen? ⟨g, k, none⟩ = false := own1.frozenAt k
      have hst := own1.stored k (.string t)
      rw [HS.out] at hst
      have OW := (show Hid _ from hst.1)
      have GR : Hid (w.grownBy (w1.setCell ⟨g, k, none⟩ (.string t)) (some g)) := hgr.out.trans ((grown_of_below hb1 (some g)).trans (grown_set _ _ _ _))
      clear hst own1 hown hgr hb1 cm HS
      go_wp2
      go_roundw
      case rel => exact ⟨k + 1, by omega, by go_num, by go_num, OW.out, GR.out⟩
      case measure => simp [intOf]; omega
    · have e : k = n := by omega
      subst e
      have HM : Hid (midRow 1 k L = markRow 1 k) := (mid_end (by have := HL.out; omega) (by have := HL.out; omega)).trans (by rw [HL.out])
      go_wp2
      go_ret
      exact ⟨rfl, by rw [← HM.out]; exact hown.out, hgr.out⟩

set_option maxHeartbeats 2000000 in
theorem heldStringS_any (v : Value) (n : Nat) (base : Nat) (w : World) (hown : w.ownsRow base 9 1 v n (markRow 1 n)) (hn : n ≤ 10000000) :
    Calls Tryz.prog 9 #[v, .int .i64 1] w fun e w' => e = .returned (.int .i64 (1 + n)) ∧ Below w.heap.size w w' := by
  rcases hown.2 with ⟨rfl, rfl⟩ | ⟨g, cap, cur, rfl, hbg, hg, hnc, hcm, hcs, htake⟩
  · go_enter Tryz.func9, Tryz.ntmps9
    go_wp2
    go_loopw [1, 5] (fun k i wr => k = .int .i64 1 ∧ i = .int .i64 0 ∧ wr = w) (fun _ _ _ => 0)
    case atStart => exact ⟨rfl, rfl, rfl⟩
    case round =>
      obtain ⟨rfl, rfl, rfl⟩ := hrel
      go_wp2
      go_ret
      exact ⟨rfl, Below.refl _ _⟩
  have hgl : g < w.heap.size := (Array.getElem?_eq_some_iff.1 hg).1
  clear hg hcs htake hcm
  have HO : Hid (∀ k, k < n → w.cell? ⟨g, k, none⟩ = some (.string (mark (1 + (k : Int))))) := fun k hk => (hown.cellAt k (by omega)).trans (by unfold markRow; simp [hk])
  clear hown
  go_enter Tryz.func9, Tryz.ntmps9
  go_wp2
  go_loopw [1, 5] (fun c i wr => ∃ k : Nat, k ≤ n ∧ i = .int .i64 k ∧ c = .int .i64 (1 + (k : Int)) ∧ Hid (Below w.heap.size w wr)) (fun _ i _ => n - (intOf i).toNat)
  case atStart => exact ⟨0, Nat.zero_le _, rfl, rfl, Below.refl _ _⟩
  case round =>
    obtain ⟨k, hk, rfl, rfl, hbel⟩ := hrel
    by_cases hlt : k < n
    · have cm := fun w => markText_any (1 + (k : Int)) w (by omega) (by omega)
      have c0 : wr.cell? ⟨g, k, none⟩ = some (.string (mark (1 + (k : Int)))) := (hbel.out.cell (p := ⟨g, _, none⟩) hgl).trans (HO.out k hlt)
      have hgr : g < wr.heap.size := Nat.lt_of_lt_of_le hgl hbel.out.size
      generalize mark (1 + (k : Int)) = t at cm c0
      have k0 : (0 : Int) ≤ (k : Int) := by omega
      have k1 : (k : Int) < (n : Int) := by omega
      clear HO
      go_wp2_with fail
      go_region_with (go_at_call 18; refine (cm _).mono ?_; rintro e w1 ⟨rfl, hb1⟩; have c1 : w1.cell? ⟨g, k, none⟩ = some (.string t) := (hb1.cell (p := ⟨g, k, none⟩) hgr).trans c0; have b1 : Hid (Below w.heap.size w w1) := hbel.out.trans (Below.mono ⟨hb1.os, hb1.tape, hb1.output, hb1.size, hb1.block⟩ hbel.out.size); clear hb1)
      all_goals go_wp2
      all_goals go_roundw
      all_goals first
        | (case rel => exact ⟨k + 1, by omega, by go_num, by go_num, by first | exact b1.out | exact b1.out.drew | exact below_drewN b1.out _⟩)
        | skip
      all_goals first
        | (case measure => simp [intOf]; omega)
        | skip
    · have e : k = n := by omega
      subst e
      clear HO
      go_wp2
      go_ret
      exact ⟨rfl, hbel.out⟩
end Go.Proofs.YtnfonccimaikgaaGreatDoor.Marks
