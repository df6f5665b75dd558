/-
  Contracts of ours for strings.Builder's WriteString and String that tell besides what they leave as it was: all that is no cells, and other variables' boxes.
-/
import Derived.Test.YtbfjalpkdgepnaaBld
import Derived.RangeFuncBox
import Derived.RangeFuncNested
import Derived.Deep.RegionWith
namespace Go.Proofs.Ytbfjalpkdgepnaa.Bldk
open Go.RowKit
open Bld
set_option linter.unusedVariables false
set_option maxRecDepth 100000
theorem keeps_freeze (w : World) (a : Addr) (n : Nat) : KeepsOthers w (w.freeze a n) := by
  unfold World.freeze
  split
  · exact KeepsOthers.refl w
  · refine ⟨by simp, fun k o hk ho => ?_⟩
    show (w.heap.modify a.block _)[k]? = _
    obtain ⟨hlt, hk'⟩ := Array.getElem?_eq_some_iff.1 hk
    rw [Array.getElem?_eq_getElem (by rw [Array.size_modify]; exact hlt), Array.getElem_modify]
    split
    · rename_i e
      subst e
      rw [hk']
      cases o <;> first | rfl | cases ho
    · rw [hk']
theorem parts {B b : Nat} {bs : List Value} {w : World} (h : Holds B b bs w) : ∃ p v, w.heap[b]? = some (.cells #[p, v] 32 (0, 0)) ∧ w.ownsRow B 5 1 v bs.length bs ∧ v.ownBlock ≠ some b := by
  rcases h with ⟨_, v, hbk, hown, hne⟩ | ⟨_, v, hbk, hown, hne⟩
  · exact ⟨_, v, hbk, hown, hne⟩
  · exact ⟨_, v, hbk, hown, hne⟩
theorem row_cells {B : Nat} {bs : List Value} {v : Value} {w : World} (h : w.ownsRow B 5 1 v bs.length bs) {g : Nat} (hg : v.ownBlock = some g) : ∃ cur, w.heap[g]? = some (.cells cur 5 (0, 0)) := by
  rcases h.2 with ⟨rfl, _⟩ | ⟨g', cap, cur, rfl, _, hgb, _⟩
  · cases hg
  · have : g' = g := Option.some.inj hg
    subst this
    exact ⟨_, hgb⟩
theorem write_any (B b : Nat) (bs : List Value) (s : ByteArray) (w : World) (h : Holds B b bs w) (hlen : bs.length + s.size ≤ 140737488355328) (hBw : B ≤ w.heap.size) :
    Calls Try.prog 15 #[.pointer (some ⟨b, 0, none⟩), .string s] w fun e w' => e = .returned (.tuple #[.int .i64 s.size, .nilIface]) ∧ (Holds B b (bs ++ Lib.strCells s) w' ∧ Below B w w' ∧ KeepsOthers w w' ∧ ∀ k v, Boxed w k 9 v → Boxed w' k 9 v) := by
  obtain ⟨p, v, hbk, hown, hne⟩ := parts h
  have hv : w.cell? ⟨b, 1, none⟩ = some v := by rw [Lib.cell_of_heap hbk]; rfl
  refine (str_kept B b bs s v w h hv hlen hBw).mono ?_
  rintro e w' ⟨rfl, h1, h2, h3, h4⟩
  refine ⟨rfl, h1, h2, ⟨h3, fun k o hk ho => ?_⟩, fun k u hk => ?_⟩
  · rw [h4 k (Array.getElem?_eq_some_iff.1 hk).1 ?_ ?_]
    · exact hk
    · rintro rfl
      rw [hbk] at hk; cases hk; cases ho
    · intro hg
      obtain ⟨cur, hc⟩ := row_cells hown hg
      rw [hc] at hk; cases hk; cases ho
  · have hk' : w.heap[k]? = some (.cells #[u] 9 (0, 0)) := hk
    show w'.heap[k]? = _
    rw [h4 k (Array.getElem?_eq_some_iff.1 hk').1 ?_ ?_]
    · exact hk'
    · rintro rfl
      rw [hbk] at hk'
      injection hk' with hk'
      injection hk' with h1
      have := congrArg Array.size h1
      simp at this
    · intro hg
      obtain ⟨cur, hc⟩ := row_cells hown hg
      rw [hc] at hk'
      injection hk' with hk'
      injection hk' with _ h1
      cases h1
set_option maxHeartbeats 2000000 in
theorem string_any (B b : Nat) (l : List UInt8) (w : World) (h : Holds B b (Lib.byteCells l) w) (h0 : l ≠ []) :
    Calls Try.prog 18 #[.pointer (some ⟨b, 0, none⟩)] w fun e w' => e = .returned (.string ⟨l.toArray⟩) ∧ Below B w w' ∧ KeepsOthers w w' := by
  obtain ⟨p, v, hbk, hown, hne⟩ := parts h
  have hl0 : l.length ≠ 0 := by simpa using h0
  rw [Lib.byteCells_length] at hown
  obtain ⟨g, cap, cur, rfl, hbg, hg, hnc, hcm, hcs, htake⟩ : ∃ g cap cur, v = .slice (some ⟨g, 0, none⟩) l.length cap ∧ B ≤ g ∧ w.heap[g]? = some (.cells cur 5 (0, 0)) ∧ l.length ≤ cap ∧ cap ≤ maxLen ∧ cur.size = cap * 1 ∧ cur.toList.take (l.length * 1) = Lib.byteCells l := by
    rcases hown.2 with ⟨_, hz⟩ | ⟨g, cap, cur, hv, r⟩
    · exact absurd hz hl0
    · exact ⟨g, cap, cur, hv, r⟩
  have c1 : w.drew.cell? ⟨b, 1, none⟩ = some (.slice (some ⟨g, 0, none⟩) l.length cap) := by
    have : w.drew.heap[b]? = some (.cells #[p, .slice (some ⟨g, 0, none⟩) l.length cap] 32 (0, 0)) := hbk
    rw [Lib.cell_of_heap this]; rfl
  have c0 : w.cell? ⟨b, 1, none⟩ = some (.slice (some ⟨g, 0, none⟩) l.length cap) := c1
  have hSD : (Builtin.unsafeSliceData_ #[25] 54 #[.slice (some ⟨g, 0, none⟩) l.length cap]).run Try.prog w.drew = .ok (.pointer (some ⟨g, 0, none⟩)) w.drew :=
    Lib.run_unsafeSliceData_row _ _ _ _ _ _ (by omega)
  have hUS : (Builtin.unsafeString_ #[54, 3] 9 #[.pointer (some ⟨g, 0, none⟩), .int .i64 l.length]).run Try.prog w.drew = .ok (.string ⟨l.toArray⟩) (w.drew.freeze ⟨g, 0, none⟩ l.length) := by
    refine Lib.run_unsafeString_row w.drew 54 3 9 5 Try.underlying54 (by kernel_rfl) g cur.size (by have hg' : w.drew.heap[g]? = some (.cells cur 5 (0, 0)) := hg; simp [World.shape?, hg']) l h0 (by omega) (by unfold maxLen at hcm; omega) ?_
    intro j x hx
    have := hown.cells (g := g) rfl j (.int .u8 x.toNat) (by simp [Lib.byteCells, hx])
    exact this
  go_enter Try.func18, Try.ntmps18
  go_wp2
  go_region
  all_goals (go_wp2; go_ret; exact ⟨rfl, Lib.below_freeze (Below.drew (Below.refl B w)) (p := ⟨g, 0, none⟩) hbg _, ⟨(keeps_freeze w.drew _ _).size, (keeps_freeze w.drew _ _).same⟩⟩)
theorem holds_kept {B b : Nat} {bs : List Value} {w w' : World} {row : Option Nat} (h : Holds B b bs w) (hg : w.grownBy w' row) (hr : ∀ r, row = some r → ∃ o : Obj, w.heap[r]? = some o ∧ o.isCells = false) : Holds B b bs w' := by
  have go : ∀ p, Lib.BuilderAt 32 5 B b p bs w → Lib.BuilderAt 32 5 B b p bs w' := fun p hp => by
    have hl := hp.lt
    obtain ⟨hB, v, hbk, hown, hne⟩ := hp
    have nb : some b ≠ row := fun e => by
      obtain ⟨o, ho, hc⟩ := hr b e.symm
      rw [hbk] at ho; cases ho; cases hc
    refine ⟨hB, v, (hg.block b hl nb).trans hbk, hown.kept hg ?_, hne⟩
    cases hv : v.ownBlock with
    | none => exact .inl rfl
    | some g =>
      refine .inr fun e => ?_
      obtain ⟨o, ho, hc⟩ := hr g e.symm
      obtain ⟨cur, hcur⟩ := row_cells hown hv
      rw [hcur] at ho; cases ho; cases hc
  exact h.imp (go _) (go _)
theorem holds_own {β : Type} (B b : Nat) (f : β → List Value) : Own (fun s W => Holds B b (f s) W) := fun s X Y row hs hg hr => holds_kept hs hg hr
end Go.Proofs.Ytbfjalpkdgepnaa.Bldk
