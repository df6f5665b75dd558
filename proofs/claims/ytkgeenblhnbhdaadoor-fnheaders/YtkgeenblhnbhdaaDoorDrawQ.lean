/-
  What the draws of chapter 12 can answer; and nothing old is written.
-/
import Derived.Test.YtkgeenblhnbhdaaDoorDrawP
import Derived.Deep.Cut
import Derived.Deep.DeepCutAuto
namespace Go.Proofs.YtkgeenblhnbhdaaDoor.DrawQ
open Go.ChangeShapes Go.WideShapes Go.ChangeAt Go.RowKit
open Rdr (Rd Post)
open DrawI DrawP
set_option linter.unusedVariables false
set_option maxRecDepth 20000

theorem any_cons {P : Program} {ops : Array Oper} {Q : Exit → Act → World → Prop} {md : Region.Mode} {fuel : Nat} {listed : Array Bool} {a : Act} {w : World} {i : Nat} {o : Oper} {rs : List Nat} (ho : ops[i]? = some o) (hg : Region.wanted o (yielded ops a.tmps) = true)
    (h : ∀ K' : Act → World → Prop, (∀ a w, wpAny P md ops Q fuel (listed.setIfInBounds i true) a w → K' a w) → Oper.wp P o a w K' Q) (hs : AllReady P md ops Q fuel listed a w rs) : AllReady P md ops Q fuel listed a w (i :: rs) :=
  AllReady.cons ho (fun K hK => by simp only [hg, if_true]; exact h K hK) hs
/-- The block B is the row of the five titles. -/
def RowT (w : World) (B : Nat) : Prop := w.heap[B]? = some (.cells #[Value.string ⟨#[]⟩, Value.string ⟨#[71, 65, 77, 69]⟩, Value.string ⟨#[49, 50, 51, 52, 53, 54, 55, 56, 57, 48, 49, 50, 51, 52, 53]⟩, Value.string ⟨#[49, 50, 51, 52, 53, 54, 55, 56, 57, 48, 49, 50, 51, 52, 53, 54]⟩, Value.string ⟨#[10]⟩] 9)
theorem RowT.new (w : World) : RowT (w.alloc (.cells #[Value.string ⟨#[]⟩, Value.string ⟨#[71, 65, 77, 69]⟩, Value.string ⟨#[49, 50, 51, 52, 53, 54, 55, 56, 57, 48, 49, 50, 51, 52, 53]⟩, Value.string ⟨#[49, 50, 51, 52, 53, 54, 55, 56, 57, 48, 49, 50, 51, 52, 53, 54]⟩, Value.string ⟨#[10]⟩] 9)) w.heap.size := heap_alloc_new _ _
theorem RowT.post {w w' : World} {rb B : Nat} (h : RowT w B) (p : Post w rb w') (hne : B ≠ rb) : RowT w' B := (p.2.block B (lt_of_block h) (fun e => hne (Option.some.inj e))).trans h
theorem RowT.at {w : World} {B : Nat} (h : RowT w B) (q : Int) (q0 : 0 ≤ q) (q1 : q < 5) : ∃ T : ByteArray, T.size ≤ 16 ∧ w.cell? ⟨B, q.toNat, none⟩ = some (.string T) := by
  have e : ∀ i : Nat, w.cell? ⟨B, i, none⟩ = (#[Value.string ⟨#[]⟩, Value.string ⟨#[71, 65, 77, 69]⟩, Value.string ⟨#[49, 50, 51, 52, 53, 54, 55, 56, 57, 48, 49, 50, 51, 52, 53]⟩, Value.string ⟨#[49, 50, 51, 52, 53, 54, 55, 56, 57, 48, 49, 50, 51, 52, 53, 54]⟩, Value.string ⟨#[10]⟩])[i]? := fun i => by
    unfold RowT at h
    unfold World.cell?
    simp only [h]
    rfl
  rcases (show q = 0 ∨ q = 1 ∨ q = 2 ∨ q = 3 ∨ q = 4 from by omega) with rfl | rfl | rfl | rfl | rfl
  · exact ⟨_, by decide, e 0⟩
  · exact ⟨_, by decide, e 1⟩
  · exact ⟨_, by decide, e 2⟩
  · exact ⟨_, by decide, e 3⟩
  · exact ⟨_, by decide, e 4⟩
def Three (e : Ending) : Prop := ∃ (s t : ByteArray) (k : Int), s.size ≤ 1024 ∧ t.size ≤ 16 ∧ e = .returned (.tuple #[.string s, .string t, .int .i64 k])
theorem drawHeaderSum_any (a : Option Addr) (len cap : Nat) (zs : List Int) (w : World) (h : Rdr.IsRow .u8 w a len cap zs) :
    Calls Tryd.prog 8 #[.slice a len cap] w fun e w' => (∃ s : ByteArray, s.size ≤ 1024 ∧ e = .returned (.string s)) ∧ Below w.heap.size w w' := by
  have H : Hid (Rdr.IsRow .u8 w a len cap zs) := h
  clear h
  go_enter Tryd.func8, Tryd.ntmps8
  go_wp2_with fail
  refine (Rdr.open_any _ _ _ _ _ H.out).mono ?_
  rintro e w1 ⟨rfl, hr, hb⟩
  have HR : Hid (Rd w1 w.heap.size) := hr
  have B1 : Hid (Below w.heap.size w w1) := hb
  have hlt := hr.lt
  clear hr hb
  generalize hB : w.heap.size = rb at HR B1 hlt ⊢
  go_wp2_with fail
  refine (rom_any _ _ HR.out).mono ?_
  rintro e w2 ⟨⟨s, hs, rfl⟩, p2⟩
  have HP : Hid (Post w1 rb w2) := p2
  clear p2
  go_wp2
  go_ret
  exact ⟨⟨s, hs, rfl⟩, by rw [hB]; exact B1.out.trans (HP.out.below (Nat.le_refl _) (Nat.le_of_lt hlt))⟩
end Go.Proofs.YtkgeenblhnbhdaaDoor.DrawQ
