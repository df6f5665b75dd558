/-
  Contracts of ours for what makes drawn args and drawn lines that are filled: the reader's args, spec.DrawArgsOf, spec.DrawFilled.
-/
import Derived.Test.YtcjipfjbbdbbgaaDoorDraw
import Derived.Test.YtcjipfjbbdbbgaaDoorCuts
namespace Go.Proofs.YtcjipfjbbdbbgaaDoor.DrawT
open Go.ChangeShapes Go.WideShapes Go.ChangeAt Go.RowKit Go.Deep
set_option linter.unusedVariables false
open Rdr (Rd Post IsRow)
open Draw (row_text)
open Names (empty_yes empty_no)
open Txts (infoS)

def tabA : List ByteArray := [⟨#[97]⟩, ⟨#[91, 104, 108, 43, 93]⟩, ⟨#[49, 43, 50]⟩, ⟨#[120, 32, 121]⟩, ⟨#[36, 49, 50]⟩, ⟨#[110, 122]⟩]
set_option maxHeartbeats 1000000 in
theorem args_any (rb : Nat) (w : World) (h : Rd w rb) :
    Calls Tryd.prog 32 #[.pointer (some ⟨rb, 0, none⟩)] w fun e w' => (∃ t : ByteArray, t.size ≤ 12 ∧ e = .returned (.string t)) ∧ Post w rb w' := by
  have H : Hid (Rd w rb) := h
  clear h
  go_enter Tryd.func32, Tryd.ntmps32
  go_wp2_with fail
  refine (Rdr.below_any _ _ _ H.out (by decide) (by decide)).mono ?_
  rintro e w1 ⟨⟨x, x0, x1, rfl⟩, hp⟩
  have HP : Hid (Post w rb w1) := hp
  clear hp H
  go_wp2
  go_loopw [3, 4] (fun s i wr => ∃ (t : ByteArray) (m : Int), 0 ≤ m ∧ m ≤ 2 ∧ (t.size : Int) ≤ 6 * (2 - m) ∧ s = .string t ∧ i = .int .i64 m ∧ Hid (Post w rb wr)) (fun _ i _ => (intOf i).toNat)
  case atStart => exact ⟨⟨#[]⟩, x, x0, by omega, by show ((0 : Nat) : Int) ≤ _; omega, rfl, rfl, HP.out⟩
  case round =>
    obtain ⟨t, m, hm0, hm1, ht, rfl, rfl, hp⟩ := hrel
    clear HP
    by_cases hlt : 0 < m
    · by_cases h0 : t.size = 0
      · have he := empty_yes h0
        go_wp2_with fail
        refine (Rdr.below_any _ _ _ (hp.out.alloc _).1 (by decide) (by decide)).mono ?_
        rintro e w2 ⟨⟨y, y0, y1, rfl⟩, hp'⟩
        obtain ⟨z, hz, hc⟩ := row_text (C := tabA) 5 hp' rfl hp.out.1.lt (by decide) y0 y1
        have HQ : Hid (Post w rb w2) := (hp.out.alloc _).trans hp'
        clear hp hp'
        go_wp2
        go_roundw
        case rel => exact ⟨t ++ z, m - 1, by omega, by omega, by rw [ByteArray.size_append]; omega, rfl, rfl, HQ.out⟩
        case measure => simp [intOf]; omega
      · have he := empty_no h0
        have q1 : (t ++ (⟨#[44]⟩ : ByteArray)).size = t.size + 1 := by rw [ByteArray.size_append]; rfl
        go_wp2_with fail
        refine (Rdr.below_any _ _ _ (hp.out.alloc _).1 (by decide) (by decide)).mono ?_
        rintro e w2 ⟨⟨y, y0, y1, rfl⟩, hp'⟩
        obtain ⟨z, hz, hc⟩ := row_text (C := tabA) 5 hp' rfl hp.out.1.lt (by decide) y0 y1
        have HQ : Hid (Post w rb w2) := (hp.out.alloc _).trans hp'
        clear hp hp'
        go_wp2
        go_roundw
        case rel => exact ⟨t ++ ⟨#[44]⟩ ++ z, m - 1, by omega, by omega, by rw [ByteArray.size_append, q1]; omega, rfl, rfl, HQ.out⟩
        case measure => simp [intOf]; omega
    · go_wp2
      go_ret
      exact ⟨⟨t, by omega, rfl⟩, hp.out⟩

end Go.Proofs.YtcjipfjbbdbbgaaDoor.DrawT
