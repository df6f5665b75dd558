/-
  What spec.DrawEvalExpr can draw.
-/
import Derived.Test.YtfgabgihdcokdaaCmpf
import Derived.Test.YtfgabgihdcokdaaDrawS
namespace Go.Proofs.Ytfgabgihdcokdaa.DrawV
open Go.ChangeShapes Go.WideShapes Go.ChangeAt Go.RowKit Go.Deep
open Rdr (Rd Post)
open Symr (Sym Syms)
set_option linter.unusedVariables false
set_option maxRecDepth 20000
theorem rb_ne {w : World} {base rb : Nat} {v : Value} {n : Nat} {xs : List Value} {e : TypeId} (h : w.ownsRow base e 3 v n xs) (hr : rb < base) : v.ownBlock = none ∨ v.ownBlock ≠ some rb := by
  cases hv : v.ownBlock with
  | none => exact .inl rfl
  | some g => exact .inr fun e => by cases e; have := (h.lt _ hv).1; omega
set_option maxHeartbeats 1000000 in
theorem drawEval_any (a : Option Addr) (len cap : Nat) (zs : List Int) (w : World) (h : Rdr.IsRow .u8 w a len cap zs) :
    Calls Try.prog 6 #[.slice a len cap] w fun e w' => (∃ (a2 : Option Addr) (cap2 : Nat) (L : List Stepx.Node) (Y : List Sym) (g c : Nat), e = .returned (.tuple #[.slice a2 L.length cap2, .slice (some ⟨g, 0, none⟩) Y.length c]) ∧ Nodm.Own w' w.heap.size (.slice a2 L.length cap2) L ∧ L.length ≤ 30 ∧ (∀ x ∈ L, Cmpf.Nice x) ∧ Y.length ≤ 4 ∧ DrawS.Own w' w.heap.size (.slice (some ⟨g, 0, none⟩) Y.length c) Y ∧ (∀ y ∈ Y, y.1.size ≤ 1048576)) ∧ Below w.heap.size w w' := by
  have ho := Rdr.open_any a len cap zs w h
  clear h
  go_enter Try.func6, Try.ntmps6
  go_wp2_with fail
  refine ho.mono ?_
  rintro e w1 ⟨rfl, hr, hb⟩
  have hlt := hr.lt
  have R : Hid (Rd w1 w.heap.size ∧ Below w.heap.size w w1) := ⟨hr, hb⟩
  clear hr hb ho
  go_wp2_with fail
  refine (Cmpf.expr_any _ _ R.out.1).mono ?_
  rintro e w2 ⟨⟨a2, cap2, L, rfl, ho2, hl, hn⟩, hp⟩
  have P2 : Hid (Post w1 w.heap.size w2 ∧ Nodm.Own w2 w1.heap.size (.slice a2 L.length cap2) L) := ⟨hp, ho2⟩
  have N : Hid (∀ x ∈ L, Cmpf.Nice x) := hn
  clear ho2 hp hn
  go_wp2_with fail
  refine (DrawS.syms_any _ _ P2.out.1.1).mono ?_
  rintro e w3 ⟨⟨Y, g, c, rfl, hy, ho3, hz⟩, hp3⟩
  have F : Hid (Nodm.Own w3 w.heap.size (.slice a2 L.length cap2) L ∧ DrawS.Own w3 w.heap.size (.slice (some ⟨g, 0, none⟩) Y.length c) Y ∧ Below w.heap.size w w3) := by
    have s2 := P2.out.1.2.size
    have s1 := R.out.2.size
    refine ⟨Cmpd.own_low (P2.out.2.kept hp3.2 (rb_ne P2.out.2 hlt)) s1, ?_, R.out.2.trans ((P2.out.1.trans hp3).below (Nat.le_refl _) s1)⟩
    refine ⟨ho3.1, ?_⟩
    rcases ho3.2 with h' | ⟨g, c, cur, e, hg, rest⟩
    · exact .inl h'
    · exact .inr ⟨g, c, cur, e, by omega, rest⟩
  have Z : Hid (∀ y ∈ Y, y.1.size ≤ 1048576) := hz
  clear ho3 hp3 hz P2 R
  go_wp2_with fail
  go_ret2
  exact ⟨⟨a2, cap2, L, Y, g, c, rfl, F.out.1, hl, N.out, hy, F.out.2.1, Z.out⟩, F.out.2.2⟩
end Go.Proofs.Ytfgabgihdcokdaa.DrawV
