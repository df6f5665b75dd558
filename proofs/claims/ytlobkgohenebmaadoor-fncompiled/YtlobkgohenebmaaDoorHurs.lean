/-
  Contracts of ours for a text that is hurt: no more than one sign comes to it; spec.DrawCompiled.
-/
import Derived.Test.YtlobkgohenebmaaDoorCmps
namespace Go.Proofs.YtlobkgohenebmaaDoor.Hurs
open Go.ChangeShapes Go.WideShapes Go.ChangeAt Go.RowKit
open Rdr (Rd Post)
open Prsm Cmps Draw
set_option linter.unusedVariables false
set_option maxRecDepth 20000

theorem sz_ext (s : ByteArray) (i j : Nat) : sz (s.extract i j) ≤ sz s := by
  unfold sz sp
  rw [ByteArray.data_extract, Array.toList_extract, List.extract_eq_take_drop]
  exact ((List.take_sublist _ _).trans (List.drop_sublist _ _)).countP_le
theorem sz_one {t : ByteArray} (h : t.size ≤ 1) : sz t ≤ 1 := Nat.le_trans (List.countP_le_length (p := spc) (l := t.data.toList)) h
theorem sz_cat {s t : ByteArray} (h : t.size ≤ 1) : sz (s ++ t) ≤ sz s + 1 := by rw [sz_app]; have := sz_one h; omega
theorem sz_cut {s t : ByteArray} {k : Nat} (hk : k < s.size) (h : t.size ≤ 1) : sz (s.extract 0 k ++ t ++ s.extract (k + 1) s.size) ≤ sz s + 1 := by
  rw [sz_app, sz_app]
  have h1 := sz_one h
  have h2 : sz (s.extract 0 k) + sz (s.extract (k + 1) s.size) ≤ sz s := by
    unfold sz sp
    rw [ByteArray.data_extract, Array.toList_extract, List.extract_eq_take_drop, ByteArray.data_extract, Array.toList_extract, List.extract_eq_take_drop, ← List.countP_append]
    refine List.Sublist.countP_le ?_
    rw [List.drop_zero]
    have e : s.data.toList = s.data.toList.take k ++ s.data.toList.drop k := (List.take_append_drop _ _).symm
    conv => rhs; rw [e]
    refine List.Sublist.append (List.take_sublist_take_left (by omega)) ?_
    refine (List.take_sublist _ _).trans ?_
    rw [show k + 1 = k + 1 from rfl, ← List.drop_drop]
    exact List.drop_sublist _ _
  omega
set_option maxHeartbeats 1000000 in
theorem hurt_any (rb : Nat) (s : ByteArray) (w : World) (h : Rd w rb) (hs : s.size ≤ 100000000) :
    Calls Tryd.prog 21 #[.pointer (some ⟨rb, 0, none⟩), .string s] w fun e w' => (∃ t : ByteArray, (t.size ≤ s.size + 1 ∧ sz t ≤ sz s + 1) ∧ e = .returned (.string t)) ∧ Post w rb w' := by
  have H : Hid (Rd w rb) := h
  clear h
  go_enter Tryd.func21, Tryd.ntmps21
  go_wp2_with fail
  refine (Rdr.below_any _ _ _ H.out (by decide) (by decide)).mono ?_
  rintro e w1 ⟨⟨x, x0, x1, rfl⟩, hp⟩
  by_cases e1 : x = 1
  · subst e1
    go_wp2_with fail
    refine (Rdr.below_any _ _ _ hp.1 (by omega) (by omega)).mono ?_
    rintro e w2 ⟨⟨y, y0, y1, rfl⟩, hp'⟩
    go_wp2
    go_ret
    exact ⟨⟨_, ⟨by rw [ByteArray.size_extract]; omega, Nat.le_succ_of_le (sz_ext _ _ _)⟩, rfl⟩, hp.trans hp'⟩
  by_cases e2 : x = 2
  · subst e2
    by_cases hz : 0 < s.size
    · go_wp2_with fail
      refine (Rdr.below_any _ _ _ hp.1 (by omega) (by omega)).mono ?_
      rintro e w2 ⟨⟨y, y0, y1, rfl⟩, hp'⟩
      have hl := hp'.1.lt
      obtain ⟨k, rfl⟩ := Int.eq_ofNat_of_zero_le y0
      have hk : k < s.size := by omega
      have hk1 : k + 1 ≤ s.size := hk
      have hk0 : k ≤ s.size := Nat.le_of_lt hk
      have hwr : IntKind.i64.wrap ((k : Int) + 1) = (k : Int) + 1 := by rw [IntKind.wrap_i64]; omega
      have hi0 : (0 : Int) ≤ (k : Int) + 1 := by omega
      have hi1 : (k : Int) + 1 ≤ (s.size : Int) := by omega
      have hi2 : ((k : Int) + 1).toNat = k + 1 := by omega
      have z1 : (s.extract 0 k).size = k := by rw [ByteArray.size_extract]; omega
      have z2 : (s.extract (k + 1) s.size).size = s.size - (k + 1) := by rw [ByteArray.size_extract]; omega
      clear y0 y1
      go_wp2_with fail
      go_region_with (first
        | (go_at_call 37; refine (Rdr.below_any _ _ (w2.drew) ?rd (by decide) (by decide)).mono ?_; (case rd => exact hp'.1.kept (fun _ _ => rfl)); rintro e w3 ⟨⟨z, z0, z1, rfl⟩, hp3⟩; obtain ⟨t, ht, hc⟩ := row_get (C := [⟨#[48]⟩, ⟨#[97]⟩, ⟨#[32]⟩, ⟨#[44]⟩, ⟨#[36]⟩, ⟨#[43]⟩]) 1 (by decide) z0 z1; have hc : ∀ h, ([Value.string ⟨#[48]⟩, .string ⟨#[97]⟩, .string ⟨#[32]⟩, .string ⟨#[44]⟩, .string ⟨#[36]⟩, .string ⟨#[43]⟩] : List Value)[z.toNat]'h = .string t := hc; have q1 : ¬ 9223372036854775807 < k + t.size := (by omega); have q2 : ¬ 9223372036854775807 < k + t.size + (s.size - (k + 1)) := (by omega))
        | (go_at_call 37; refine (Rdr.below_any _ _ _ ?rd (by decide) (by decide)).mono ?_; (case rd => exact (hp'.alloc _).1.kept (fun _ _ => rfl)); rintro e w3 ⟨⟨z, z0, z1, rfl⟩, hp3⟩; obtain ⟨t, ht, hc⟩ := row_text (C := [⟨#[48]⟩, ⟨#[97]⟩, ⟨#[32]⟩, ⟨#[44]⟩, ⟨#[36]⟩, ⟨#[43]⟩]) 1 hp3 rfl hl (by decide) z0 z1; have q1 : ¬ 9223372036854775807 < k + t.size := (by omega); have q2 : ¬ 9223372036854775807 < k + t.size + (s.size - (k + 1)) := (by omega)))
      all_goals go_wp2
      all_goals go_ret
      · exact ⟨⟨s.extract 0 k ++ t ++ s.extract (k + 1) s.size, ⟨by rw [ByteArray.size_append, ByteArray.size_append]; omega, sz_cut hk ht⟩, rfl⟩, hp.trans ((hp'.alloc _).trans ⟨hp3.1, ⟨hp3.2.os, hp3.2.tape, hp3.2.output, hp3.2.size, hp3.2.block⟩⟩)⟩
      · exact ⟨⟨s.extract 0 k ++ t ++ s.extract (k + 1) s.size, ⟨by rw [ByteArray.size_append, ByteArray.size_append]; omega, sz_cut hk ht⟩, rfl⟩, hp.trans (hp'.trans (Post.alloc (w := w2) ⟨hp3.1, ⟨hp3.2.os, hp3.2.tape, hp3.2.output, hp3.2.size, hp3.2.block⟩⟩ _))⟩
    · go_wp2
      go_ret
      exact ⟨⟨s, ⟨by omega, by omega⟩, rfl⟩, hp⟩
  by_cases e3 : x = 3
  · subst e3
    go_wp2_with fail
    refine (Rdr.below_any _ _ _ (hp.alloc _).1 (by decide) (by decide)).mono ?_
    rintro e w2 ⟨⟨y, y0, y1, rfl⟩, hp'⟩
    obtain ⟨t, ht, hc⟩ := row_text (C := [⟨#[32]⟩, ⟨#[48]⟩, ⟨#[120]⟩]) 1 hp' rfl hp.1.lt (by decide) y0 y1
    go_wp2
    go_ret
    exact ⟨⟨s ++ t, ⟨by rw [ByteArray.size_append]; omega, sz_cat ht⟩, rfl⟩, (hp.alloc _).trans hp'⟩
  · have b1 : (x == 1) = false := by simpa using e1
    have b2 : (x == 2) = false := by simpa using e2
    have b3 : (x == 3) = false := by simpa using e3
    go_wp2
    go_ret
    exact ⟨⟨s, ⟨by omega, by omega⟩, rfl⟩, hp⟩

set_option maxHeartbeats 1000000 in
theorem drawCompiled_any (a : Option Addr) (len cap : Nat) (zs : List Int) (w : World) (h : Rdr.IsRow .u8 w a len cap zs) :
    Calls Tryd.prog 10 #[.slice a len cap] w fun e w' => (∃ t : ByteArray, (t.size ≤ 100 ∧ sz t < 30) ∧ e = .returned (.string t)) ∧ Below w.heap.size w w' := by
  have ho := Rdr.open_any a len cap zs w h
  clear h
  go_enter Tryd.func10, Tryd.ntmps10
  go_wp2_with fail
  refine ho.mono ?_
  rintro e w1 ⟨rfl, hr, hb⟩
  have B1 : Hid (Below w.heap.size w w1) := hb
  clear hb ho
  go_wp2_with fail
  refine (infix_any _ _ hr).mono ?_
  rintro e w2 ⟨⟨t, ht, rfl⟩, hp⟩
  have hs : t.size ≤ 82 := ht.2
  have hz : sz t ≤ 22 := by have := ht.1; unfold F at this; omega
  have B2 : Hid (Post w1 w.heap.size w2) := hp
  clear hp hr ht
  go_wp2_with fail
  refine (Rdr.once_any _ _ _ B2.out.1 (by decide) (by decide)).mono ?_
  rintro e w3 ⟨⟨x, rfl⟩, hp⟩
  have B3 : Hid (Post w1 w.heap.size w3) := B2.out.trans hp
  clear hp
  cases x with
  | true =>
    go_wp2_with fail
    refine (hurt_any _ t _ B3.out.1 (by omega)).mono ?_
    rintro e w4 ⟨⟨u, hu, rfl⟩, hp⟩
    have B4 : Hid (Post w1 w.heap.size w4) := B3.out.trans hp
    clear hp
    go_wp2
    go_ret
    exact ⟨⟨u, ⟨by omega, by omega⟩, rfl⟩, B1.out.trans (B4.out.below (Nat.le_refl _) B1.out.size)⟩
  | false =>
    go_wp2
    go_ret
    exact ⟨⟨t, ⟨by omega, by omega⟩, rfl⟩, B1.out.trans (B3.out.below (Nat.le_refl _) B1.out.size)⟩
end Go.Proofs.YtlobkgohenebmaaDoor.Hurs
