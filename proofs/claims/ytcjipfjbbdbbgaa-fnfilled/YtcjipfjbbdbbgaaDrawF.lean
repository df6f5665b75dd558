/-
  A contract of ours for what makes drawn lines that are filled: spec.DrawFilled.
-/
import Derived.Test.YtcjipfjbbdbbgaaDrawT
namespace Go.Proofs.Ytcjipfjbbdbbgaa.DrawF
open Go.ChangeShapes Go.WideShapes Go.ChangeAt Go.RowKit Go.Deep
set_option linter.unusedVariables false
open Rdr (Rd Post IsRow)
open Draw (row_text)
open Txts (infoS)

def tabL : List ByteArray := [⟨#[]⟩, ⟨#[100, 98, 32, 92, 49, 44, 92, 50]⟩, ⟨#[108, 100, 32, 92, 51]⟩, ⟨#[92, 48, 32, 92]⟩, ⟨#[120, 92, 49, 92, 49, 92, 57]⟩]
def tabM : List ByteArray := [⟨#[97]⟩, ⟨#[]⟩, ⟨#[49, 43, 50]⟩, ⟨#[48, 49, 50, 51, 52, 53, 54, 55, 56, 57, 48, 49, 50, 51, 52, 53, 54, 55, 56, 57, 48, 49, 50, 51, 52, 53, 54, 55, 56, 57, 48, 49, 50, 51, 52, 53, 54, 55, 56, 57]⟩]
theorem own_post {w w' : World} {rb base : Nat} {e : TypeId} {size : Nat} {v : Value} {n : Nat} {xs : List Value} (h : w.ownsRow base e size v n xs) (hp : Post w rb w') (hb : rb < base) : w'.ownsRow base e size v n xs :=
  h.kept hp.2 (by
    cases hv : v.ownBlock with
    | none => exact .inl rfl
    | some k => exact .inr (fun e => by have := (h.lt k hv).1; have : k = rb := Option.some.inj e; omega))
theorem post_grown {a w w' : World} {rb : Nat} {row : Option Nat} (h : Post a rb w) (hg : w.grownBy w' row) (hr : ∀ k, row = some k → a.heap.size ≤ k) (hl : rb < a.heap.size) : Post a rb w' := by
  refine ⟨h.1.kept fun k hk => hg.block k (Nat.lt_of_le_of_lt hk h.1.lt) (fun e => by have := hr k e.symm; omega), ⟨hg.os.trans h.2.os, hg.tape.trans h.2.tape, hg.output.trans h.2.output, Nat.le_trans h.2.size hg.size, fun k hk hne => ?_⟩⟩
  exact (hg.block k (Nat.lt_of_lt_of_le hk h.2.size) (fun e => by have := hr k e.symm; omega)).trans (h.2.block k hk hne)

/-- A line and args that are drawn. -/
def Drawn (w' : World) (e : Ending) : Prop := ∃ (s : ByteArray) (A : List ByteArray) (v : Value) (B : Nat), s.size ≤ 80 ∧ A.length ≤ 3 ∧ (∀ i (h : i < A.length), A[i].size ≤ 40) ∧ w'.ownsRow B 9 1 v A.length (A.map Value.string) ∧ e = .returned (.tuple #[.string s, v])
set_option maxHeartbeats 2000000 in
theorem drawFilled_any (a : Option Addr) (len cap : Nat) (zs : List Int) (w : World) (h : IsRow .u8 w a len cap zs) :
    Calls Try.prog 10 #[.slice a len cap] w fun e w' => Drawn w' e ∧ Below w.heap.size w w' := by
  obtain ⟨i0, hi, hz0, hz1, hz2⟩ := info_parts infoS
  have co := Rdr.open_any a len cap zs w h
  clear h
  go_enter Try.func10, Try.ntmps10
  go_wp2_with fail
  refine co.mono ?_
  rintro e w1 ⟨rfl, hr1, hb1⟩
  clear co
  have hl1 := hr1.lt
  have P1 : Hid (Post w1 w.heap.size w1) := Post.refl hr1
  have B1 : Hid (Below w.heap.size w w1) := hb1
  clear hr1 hb1
  go_wp2_with fail
  refine (Rdr.below_any _ _ _ (P1.out.alloc _).1 (by decide) (by decide)).mono ?_
  rintro e w2 ⟨⟨y, y0, y1, rfl⟩, hp2⟩
  obtain ⟨s, hs, hc⟩ := row_text (C := tabL) 8 hp2 rfl P1.out.1.lt (by decide) y0 y1
  have P2 : Hid (Post w1 w.heap.size w2) := (P1.out.alloc _).trans hp2
  clear hp2 P1
  have own0 : Hid ((w2.alloc (.cells #[] 9)).ownsRow w1.heap.size 9 1 (.slice (some ⟨w2.heap.size, 0, none⟩) 0 0) 0 []) := World.ownsRow_lit w2 #[] 0 P2.out.2.size (Nat.zero_le _) rfl
  have P2a : Hid (Post w1 w.heap.size (w2.alloc (.cells #[] 9))) := P2.out.alloc _
  go_wp2_with fail
  refine (Rdr.below_any _ _ _ P2a.out.1 (by decide) (by decide)).mono ?_
  rintro e w3 ⟨⟨x, x0, x1, rfl⟩, hp3⟩
  have own3 : Hid (w3.ownsRow w1.heap.size 9 1 (.slice (some ⟨w2.heap.size, 0, none⟩) 0 0) 0 []) := own_post own0.out hp3 hl1
  have P3 : Hid (Post w1 w.heap.size w3) := P2a.out.trans hp3
  clear hp3 own0 P2 P2a hc
  go_wp2
  go_loopw [6, 7] (fun v i wr => ∃ (A : List ByteArray) (m : Int), 0 ≤ m ∧ (A.length : Int) + m ≤ 3 ∧ i = .int .i64 m ∧ Hid (∀ i (h : i < A.length), A[i].size ≤ 40) ∧ Hid (wr.ownsRow w1.heap.size 9 1 v A.length (A.map Value.string)) ∧ Hid (Post w1 w.heap.size wr)) (fun _ i _ => (intOf i).toNat)
  case atStart => exact ⟨[], x, x0, by show ((0 : Nat) : Int) + x ≤ 3; omega, rfl, fun i h => absurd h (by simp), own3.out, P3.out⟩
  case round =>
    clear own3 P3
    obtain ⟨A, m, hm0, hm1, rfl, hA, hown, hp⟩ := hrel
    by_cases hlt : 0 < m
    · go_wp2_with fail
      refine (Rdr.below_any _ _ _ (hp.out.alloc _).1 (by decide) (by decide)).mono ?_
      rintro e w4 ⟨⟨z, z0, z1, rfl⟩, hp4⟩
      obtain ⟨t, ht, hc⟩ := row_text (C := tabM) 40 hp4 rfl hp.out.1.lt (by decide) z0 z1
      have own4 : Hid (w4.ownsRow w1.heap.size 9 1 u6 A.length (A.map Value.string)) := own_post (hown.out.alloc _) hp4 hl1
      have P4 : Hid (Post w1 w.heap.size w4) := (hp.out.alloc _).trans hp4
      have HA : Hid (∀ i (h : i < (A ++ [t]).length), (A ++ [t])[i].size ≤ 40) := fun i h => by
        rw [List.getElem_append]
        split
        · exact hA.out i _
        · simpa using ht
      clear hp4 hown hp hA
      have hlt4 := own4.out.lt
      have hs4 := P4.out.2.size
      go_wp2_with (first | (at_builtin; refine wpList_append_own _ rfl (.tmp 22) (.tmp 28) 25 rfl w1.heap.size 9 i0 (.string ⟨#[]⟩) 1 16 Try.underlying25 hi hz0 hz1 hz2 rfl (by decide) _ _ _ rfl (own4.out.alloc _) ⟨w4.heap.size, 0, none⟩ 1 1 [.string t] rfl rfl (cell_one_new _ _ _) (by intro u hu; simp at hu; subst hu; rfl) (by unfold maxLen; omega) (by omega) (by simp; omega) ?_; intro v' w5 hown' hgrow _) | fail)
      have own5 : Hid (w5.ownsRow w1.heap.size 9 1 v' (A ++ [t]).length ((A ++ [t]).map Value.string)) := Argl.own_snoc hown' rfl
      have P5 : Hid (Post w1 w.heap.size w5) := post_grown (P4.out.alloc _) hgrow (fun k hk => (hlt4 k hk).1) hl1
      clear hown' hgrow own4 P4
      go_wp2
      go_roundw
      case rel => exact ⟨A ++ [t], m - 1, by omega, by simp; omega, rfl, HA.out, own5.out, P5.out⟩
      case measure => simp [intOf]; omega
    · go_wp2
      go_ret2
      exact ⟨⟨s, A, _, _, by omega, by omega, hA.out, hown.out, rfl⟩, B1.out.trans (hp.out.below (Nat.le_refl _) (Nat.le_of_lt hl1))⟩
end Go.Proofs.Ytcjipfjbbdbbgaa.DrawF
