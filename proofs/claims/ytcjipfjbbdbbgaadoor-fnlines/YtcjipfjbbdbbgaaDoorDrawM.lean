/-
  Contracts of ours for drawn lines and texts of lines: spec.DrawLineText, spec.DrawReadLine.
-/
import Derived.Test.YtcjipfjbbdbbgaaDoorDrawL
namespace Go.Proofs.YtcjipfjbbdbbgaaDoor.DrawM
open Go.ChangeShapes Go.WideShapes Go.ChangeAt Go.RowKit Go.Deep
set_option linter.unusedVariables false
open Rdr (Rd Post IsRow)
open Readl (Box)
open DrawL (Nc)
open Lino Lines

def DrawnL (e : Ending) : Prop := ∃ l o x : ByteArray, Nc 11 l ∧ Nc 11 o ∧ Nc 30 x ∧ e = .returned (.agg #[.string l, .string o, .string x])
theorem textB_le (l o a : ByteArray) : (textB l o a).size ≤ 80 := by
  unfold textB
  split
  · rename_i h
    exact (Rounb.line_head h).2
  · exact Nat.zero_le _

set_option maxHeartbeats 1000000 in
theorem drawText_any (a : Option Addr) (len cap : Nat) (zs : List Int) (w : World) (h : IsRow .u8 w a len cap zs) :
    Calls Tryd.prog 5 #[.slice a len cap] w fun e w' => DrawnL e ∧ Below w.heap.size w w' := by
  have c := DrawL.drawLine_any a len cap zs _ (h.below (Lines.grow (Below.refl _ w) (.cells #[.string ⟨#[]⟩, .string ⟨#[]⟩, .string ⟨#[]⟩] 25)))
  go_enter Tryd.func5, Tryd.ntmps5
  go_wp2_with fail
  refine c.mono ?_
  rintro e w1 ⟨⟨l, o, x, hl, ho, hx, rfl⟩, b1⟩
  have HR : Hid (Nc 11 l ∧ Nc 11 o ∧ Nc 30 x) := ⟨hl, ho, hx⟩
  have Y1 : Hid (Box w1 w.heap.size ⟨#[]⟩ ⟨#[]⟩ ⟨#[]⟩) := (Readl.Box.new w _ _ _ _).below b1
  have B1 : Hid (Below w.heap.size w w1) := (Lines.grow (Below.refl _ _) _).trans (b1.mono (by simp))
  clear hl ho hx b1 c h
  obtain ⟨⟨ra, rd⟩, ⟨rb, re⟩, ⟨rc, rf⟩⟩ := Y1.out
  go_wp2_with fail
  exact bodyPost_ret (v := .agg #[.string l, .string o, .string x]) (by simp [results, Tryd.results5, go_sem, ra, rb, rc]) rfl ⟨⟨l, o, x, HR.out.1, HR.out.2.1, HR.out.2.2, rfl⟩, Readl.below3 B1.out _ 0 0 (Nat.le_refl _) _ _ _ _ _ _⟩

set_option maxHeartbeats 1000000 in
theorem drawRead_any (a : Option Addr) (len cap : Nat) (zs : List Int) (w : World) (h : IsRow .u8 w a len cap zs) :
    Calls Tryd.prog 11 #[.slice a len cap] w fun e w' => (∃ t : ByteArray, t.size ≤ 200 ∧ e = .returned (.string t)) ∧ Below w.heap.size w w' := by
  have co := Rdr.open_any a len cap zs w h
  have H : Hid (IsRow .u8 w a len cap zs) := h
  clear h
  go_enter Tryd.func11, Tryd.ntmps11
  go_wp2_with fail
  refine co.mono ?_
  rintro e w1 ⟨rfl, hr1, hb1⟩
  clear co
  have hl1 := hr1.lt
  have R1 : Hid (Rd w1 w.heap.size) := hr1
  have B1 : Hid (Below w.heap.size w w1) := hb1
  clear hr1 hb1
  go_wp2_with fail
  refine (DrawL.drawLine_any a len cap zs _ (H.out.below B1.out)).mono ?_
  rintro e w2 ⟨⟨l, o, x, hl, ho, hx, rfl⟩, b2⟩
  have z1 := hl.1
  have z2 := ho.1
  have z3 := hx.1
  have R2 : Hid (Rd w2 w.heap.size) := R1.out.kept (fun k hk => b2.block k (by omega))
  have B2 : Hid (Below w.heap.size w w2) := B1.out.trans (b2.mono B1.out.size)
  have hs2 : w.heap.size < w2.heap.size := R2.out.lt
  clear hl ho hx b2 R1 B1
  have ct := fun w => specText_any l o x w (by omega) (by omega) (by omega)
  have hz := textB_le l o x
  generalize textB l o x = s at ct hz
  go_wp2_with fail
  refine (ct _).mono ?_
  rintro e w3 ⟨rfl, b3⟩
  have R3 : Hid (Rd w3 w.heap.size) := R2.out.kept (fun k hk => b3.block k (by omega))
  have B3 : Hid (Below w.heap.size w w3) := B2.out.trans (b3.mono B2.out.size)
  clear b3 R2 B2 ct hs2
  have hs3 : w.heap.size ≤ w3.heap.size := Nat.le_of_lt R3.out.lt
  go_wp2_with fail
  refine (Rdr.below_any _ _ _ R3.out (by decide) (by decide)).mono ?_
  rintro e w4 ⟨⟨y, y0, y1, rfl⟩, hp4⟩
  have P4 : Hid (Post w3 w.heap.size w4) := hp4
  clear hp4
  have s1 : (⟨#[32, 32]⟩ ++ s : ByteArray).size = s.size + 2 := by rw [ByteArray.size_append]; show 2 + s.size = _; omega
  by_cases e0 : y = 0
  · subst e0
    go_wp2
    go_ret
    exact ⟨⟨_, by rw [ByteArray.size_append, s1]; show _ + 14 ≤ _; omega, rfl⟩, B3.out.trans (P4.out.below (Nat.le_refl _) hs3)⟩
  have q0 : (y == 0) = false := by simpa using e0
  by_cases e1 : y = 1
  · subst e1
    go_wp2
    go_ret
    exact ⟨⟨_, by show 13 ≤ _; omega, rfl⟩, B3.out.trans (P4.out.below (Nat.le_refl _) hs3)⟩
  have q1 : (y == 1) = false := by simpa using e1
  by_cases e2 : y = 2
  · subst e2
    go_wp2_with fail
    refine (Draw.hurt_any _ _ _ P4.out.1 (by omega)).mono ?_
    rintro e w5 ⟨⟨u, hu, rfl⟩, hp5⟩
    have P5 : Hid (Post w3 w.heap.size w5) := P4.out.trans hp5
    clear hp5
    go_wp2
    go_ret
    exact ⟨⟨u, by omega, rfl⟩, B3.out.trans (P5.out.below (Nat.le_refl _) hs3)⟩
  have q2 : (y == 2) = false := by simpa using e2
  go_wp2
  go_ret
  exact ⟨⟨s, by omega, rfl⟩, B3.out.trans (P4.out.below (Nat.le_refl _) hs3)⟩
end Go.Proofs.YtcjipfjbbdbbgaaDoor.DrawM
