/-
  Contracts of ours for the specification's instructions with a code below 64.
-/
import Derived.Test.YtkfehdkjeodbmaaGreatDoorStck
namespace Go.Proofs.YtkfehdkjeodbmaaGreatDoor.Stcz
open Go.ChangeShapes Go.WideShapes Go.ChangeAt Go.RowKit Go.Deep
set_option linter.unusedVariables false
set_option linter.unusedSimpArgs false
set_option maxRecDepth 20000
open Signed (inB sgn ret_int ret_bool)
open Reck ReckS ReckM ReckD TurnS
open Busw Busx Busy Stpp Stpq Stps Sta Stb Stck
theorem inT {n lo hi : Int} (h : lo ≤ n ∧ n ≤ hi) : inB n lo hi = true := decide_eq_true h
theorem st8_in {v f : Int} {d : Bool} (h1 : 0 ≤ v ∧ v ≤ 255) (h3 : 0 ≤ f ∧ f ≤ 255) : st8 v f d = st8R v f d := by unfold st8; rw [inT h1, inT h3]; rfl
theorem aw_in {a b f : Int} (h1 : 0 ≤ a ∧ a ≤ 65535) (h2 : 0 ≤ b ∧ b ≤ 65535) (h3 : 0 ≤ f ∧ f ≤ 255) : aw a b f = awR a b f := by unfold aw; rw [inT h1, inT h2, inT h3]; rfl
theorem asg_in {a b : Int} (h1 : 0 ≤ a ∧ a ≤ 65535) (h2 : 0 ≤ b ∧ b ≤ 255) : asg a b = asR a b := by unfold asg; rw [inT h1, inT h2]; rfl
theorem rebase {g : SG} {W : World} {m : M} {full : Bool} (h : InS g W m full) : InS ⟨W, g.X⟩ W m full := by
  obtain ⟨po, cap, h⟩ := h
  exact ⟨po, cap, h.box, h.sl, h.ne, ⟨rfl, rfl, rfl, Nat.le_refl _, fun _ _ _ => rfl⟩⟩
theorem back {g : SG} {W W' : World} {m m' : M} {full full' : Bool} (h : InS g W m full) (h2 : InS ⟨W, g.X⟩ W' m' full') : InS g W' m' full' ∧ W.grownBy W' (some g.X) := by
  obtain ⟨po, cap, h⟩ := h
  obtain ⟨po', cap', h2⟩ := h2
  exact ⟨⟨po', cap', h2.box, h2.sl, h2.ne, grown_trans h.grown h2.grown⟩, h2.grown⟩
/-- Besides: nothing but the machine at work has turned. -/
theorem both {g : SG} {f : FuncId} {args : Array Value} {W : World} {m m' : M} {full full' : Bool} {v : Value} (h : InS g W m full) (hc : ∀ g' : SG, g'.X = g.X → InS g' W m full → Calls Tryz.prog f args W fun e w' => e = .returned v ∧ InS g' w' m' full') : Calls Tryz.prog f args W fun e w' => e = .returned v ∧ InS g w' m' full' ∧ W.grownBy w' (some g.X) :=
  (hc ⟨W, g.X⟩ rfl (rebase h)).mono fun e w' h' => ⟨h'.1, (back h h'.2).1, (back h h'.2).2⟩
theorem kept_cell {w w' : World} {X b i : Nat} {v : Value} (h : w.grownBy w' (some X)) (hb : b < w.heap.size) (hx : ¬ b = X) (hv : w.cell? ⟨b, i, none⟩ = some v) : w'.cell? ⟨b, i, none⟩ = some v :=
  (World.cell?_of_block (a := ⟨b, i, none⟩) (h.block b hb (fun e => hx (Option.some.inj e)))).trans hv
end Go.Proofs.YtkfehdkjeodbmaaGreatDoor.Stcz
