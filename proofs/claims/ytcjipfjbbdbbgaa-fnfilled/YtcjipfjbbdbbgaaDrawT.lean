/-
  Contracts of ours for what makes drawn args and drawn lines that are filled: the reader's args, spec.DrawArgsOf, spec.DrawFilled.
-/
import Derived.Test.YtcjipfjbbdbbgaaDraw
import Derived.Test.YtcjipfjbbdbbgaaArgl
namespace Go.Proofs.Ytcjipfjbbdbbgaa.DrawT
open Go.ChangeShapes Go.WideShapes Go.ChangeAt Go.RowKit Go.Deep
set_option linter.unusedVariables false
open Rdr (Rd Post IsRow)
open Draw (row_text)
open Names (empty_yes empty_no)
open Txts (infoS)

def tabA : List ByteArray := [⟨#[97]⟩, ⟨#[91, 104, 108, 43, 93]⟩, ⟨#[49, 43, 50]⟩, ⟨#[120, 32, 121]⟩, ⟨#[36, 49, 50]⟩, ⟨#[110, 122]⟩]
set_option maxHeartbeats 1000000 in
theorem args_any (rb : Nat) (w : World) (h : Rd w rb) :
    Calls Try.prog 16 #[.pointer (some ⟨rb, 0, none⟩)] w fun e w' => (∃ t : ByteArray, t.size ≤ 12 ∧ e = .returned (.string t)) ∧ Post w rb w' := by
  have H : Hid (Rd w rb) := h
  clear h
  go_enter Try.func16, Try.ntmps16
  go_wp2_with fail
  refine (Rdr.below_any _ _ _ H.out (by decide) (by decide)).mono ?_
  rintro e w1 ⟨⟨x, x0, x1, rfl⟩, hp⟩
  have HP : Hid (Post w rb w1) := hp
  clear hp H
  go_wp2
  go_loopw [3, 4] (fun s i wr => ∃ (t : ByteArray) (m : Int), 0 ≤ m ∧ m ≤ 2 ∧ (t.size : Int) ≤ 6 * (2 - m) ∧ s = .string t ∧ i = .int .i64 m ∧ Hid (Post w rb wr)) (fun _ i _ => (intOf i).toNat)
  case atStart => exact ⟨⟨#[]⟩, x, x0, by omega, by show ((0 : Nat) : Int) ≤ _; omega, rfl, rfl, HP.out⟩
  case round =>
    obtain ⟨t, m, hm0, hm1, ht, rfl, rfl, hp⟩ := hrel
    clear HP
    by_cases hlt : 0 < m
    · by_cases h0 : t.size = 0
      · have he := empty_yes h0
        go_wp2_with fail
        refine (Rdr.below_any _ _ _ (hp.out.alloc _).1 (by decide) (by decide)).mono ?_
        rintro e w2 ⟨⟨y, y0, y1, rfl⟩, hp'⟩
        obtain ⟨z, hz, hc⟩ := row_text (C := tabA) 5 hp' rfl hp.out.1.lt (by decide) y0 y1
        have HQ : Hid (Post w rb w2) := (hp.out.alloc _).trans hp'
        clear hp hp'
        go_wp2
        go_roundw
        case rel => exact ⟨t ++ z, m - 1, by omega, by omega, by rw [ByteArray.size_append]; omega, rfl, rfl, HQ.out⟩
        case measure => simp [intOf]; omega
      · have he := empty_no h0
        have q1 : (t ++ (⟨#[44]⟩ : ByteArray)).size = t.size + 1 := by rw [ByteArray.size_append]; rfl
        go_wp2_with fail
        refine (Rdr.below_any _ _ _ (hp.out.alloc _).1 (by decide) (by decide)).mono ?_
        rintro e w2 ⟨⟨y, y0, y1, rfl⟩, hp'⟩
        obtain ⟨z, hz, hc⟩ := row_text (C := tabA) 5 hp' rfl hp.out.1.lt (by decide) y0 y1
        have HQ : Hid (Post w rb w2) := (hp.out.alloc _).trans hp'
        clear hp hp'
        go_wp2
        go_roundw
        case rel => exact ⟨t ++ ⟨#[44]⟩ ++ z, m - 1, by omega, by omega, by rw [ByteArray.size_append, q1]; omega, rfl, rfl, HQ.out⟩
        case measure => simp [intOf]; omega
    · go_wp2
      go_ret
      exact ⟨⟨t, by omega, rfl⟩, hp.out⟩

set_option maxHeartbeats 1000000 in
theorem drawArgs_any (a : Option Addr) (len cap : Nat) (zs : List Int) (w : World) (h : IsRow .u8 w a len cap zs) :
    Calls Try.prog 6 #[.slice a len cap] w fun e w' => (∃ t : ByteArray, t.size ≤ 100 ∧ e = .returned (.string t)) ∧ Below w.heap.size w w' := by
  have co := Rdr.open_any a len cap zs w h
  clear h
  go_enter Try.func6, Try.ntmps6
  go_wp2_with fail
  refine co.mono ?_
  rintro e w1 ⟨rfl, hr1, hb1⟩
  clear co
  have hl1 := hr1.lt
  have R1 : Hid (Rd w1 w.heap.size) := hr1
  have B1 : Hid (Below w.heap.size w w1) := hb1
  clear hr1 hb1
  go_wp2_with fail
  refine (Rdr.once_any _ _ _ R1.out (by decide) (by decide)).mono ?_
  rintro e w2 ⟨⟨x, rfl⟩, hp2⟩
  have P2 : Hid (Post w1 w.heap.size w2) := hp2
  clear hp2 R1
  cases x with
  | true =>
    go_wp2_with fail
    refine (args_any _ _ P2.out.1).mono ?_
    rintro e w3 ⟨⟨t, ht, rfl⟩, hp3⟩
    have P3 : Hid (Post w1 w.heap.size w3) := P2.out.trans hp3
    clear hp3 P2
    go_wp2_with fail
    refine (Draw.hurt_any _ _ _ P3.out.1 (by omega)).mono ?_
    rintro e w4 ⟨⟨u, hu, rfl⟩, hp4⟩
    have P4 : Hid (Post w1 w.heap.size w4) := P3.out.trans hp4
    clear hp4 P3
    go_wp2
    go_ret
    exact ⟨⟨u, by omega, rfl⟩, B1.out.trans (P4.out.below (Nat.le_refl _) (Nat.le_of_lt hl1))⟩
  | false =>
    go_wp2_with fail
    refine (args_any _ _ P2.out.1).mono ?_
    rintro e w3 ⟨⟨t, ht, rfl⟩, hp3⟩
    have P3 : Hid (Post w1 w.heap.size w3) := P2.out.trans hp3
    clear hp3 P2
    go_wp2_with fail
    refine (Rdr.below_any _ _ _ (P3.out.alloc _).1 (by decide) (by decide)).mono ?_
    rintro e w4 ⟨⟨y, y0, y1, rfl⟩, hp4⟩
    obtain ⟨z, hz, hc⟩ := row_text (C := [⟨#[]⟩, ⟨#[44]⟩, ⟨#[44, 44]⟩]) 2 hp4 rfl P3.out.1.lt (by decide) y0 y1
    have P4 : Hid (Post w1 w.heap.size w4) := (P3.out.alloc _).trans hp4
    clear hp4 P3
    go_wp2
    go_ret
    exact ⟨⟨t ++ z, by rw [ByteArray.size_append]; omega, rfl⟩, B1.out.trans (P4.out.below (Nat.le_refl _) (Nat.le_of_lt hl1))⟩
end Go.Proofs.Ytcjipfjbbdbbgaa.DrawT
