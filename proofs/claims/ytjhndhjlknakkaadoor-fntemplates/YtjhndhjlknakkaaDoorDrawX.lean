/-
  What the draw of a code can answer (spec.DrawTemplateOf): a number of 64 bits and a flag; nothing old is written.
-/
import Derived.Test.YtjhndhjlknakkaaDoorRd
import Derived.OwnWalk
namespace Go.Proofs.YtjhndhjlknakkaaDoor.DrawX
open Go.ChangeShapes Go.WideShapes Go.ChangeAt Go.RowKit
open Rdr (Rd Post)
set_option linter.unusedVariables false
set_option maxRecDepth 20000

theorem drawTemplateOf_any (a : Option Addr) (len cap : Nat) (zs : List Int) (w : World) (h : Rdr.IsRow .u8 w a len cap zs) :
    Calls Tryd.prog 5 #[.slice a len cap] w fun e w' => (∃ (n : Int) (b : Bool), e = .returned (.tuple #[.int .i64 n, .bool b])) ∧ Below w.heap.size w w' := by
  have H : Hid (Rdr.IsRow .u8 w a len cap zs) := h
  clear h
  go_enter Tryd.func5, Tryd.ntmps5
  go_wp2_with fail
  refine (Rdr.open_any _ _ _ _ _ H.out).mono ?_
  rintro e w1 ⟨rfl, hr, hb⟩
  have hz := hb.size
  go_wp2_with fail
  refine (Rdr.off_any _ _ _ _ hr (by decide) (by decide) (by decide)).mono ?_
  rintro e w2 ⟨⟨x, hx, rfl⟩, hp⟩
  go_wp2_with fail
  refine (Rdr.once_any _ _ _ hp.1 (by decide) (by decide)).mono ?_
  rintro e w3 ⟨⟨q, rfl⟩, hp1⟩
  cases q with
  | true =>
    go_wp2_with fail
    refine (Rdr.once_any _ _ _ hp1.1 (by decide) (by decide)).mono ?_
    rintro e w4 ⟨⟨u, rfl⟩, hp2⟩
    go_wp2
    go_ret2
    exact ⟨⟨x, u, rfl⟩, hb.trans (((hp.trans hp1).trans hp2).below (Nat.le_refl _) hz)⟩
  | false =>
    go_wp2_with fail
    refine (Rdr.below_any _ _ _ hp1.1 (by decide) (by decide)).mono ?_
    rintro e w4 ⟨⟨y, y0, y1, rfl⟩, hp2⟩
    have hwy : IntKind.i64.wrap y = y := by rw [IntKind.wrap_i64]; omega
    go_wp2_with fail
    refine (Rdr.once_any _ _ _ hp2.1 (by decide) (by decide)).mono ?_
    rintro e w5 ⟨⟨u, rfl⟩, hp3⟩
    go_wp2
    go_ret2
    exact ⟨⟨y, u, rfl⟩, hb.trans ((((hp.trans hp1).trans hp2).trans hp3).below (Nat.le_refl _) hz)⟩
end Go.Proofs.YtjhndhjlknakkaaDoor.DrawX
