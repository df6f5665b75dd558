/-
  Rows of nodes that a call owns; contracts of ours for the laws' marks on them: markText, markENodeS, heldENodeS.
-/
import Derived.Test.YtlobkgohenebmaaDoorMirror
import Derived.Laws.OwnMore
import Derived.Laws.BytesArg
import Derived.Maps.AppendAt
namespace Go.Proofs.YtlobkgohenebmaaDoor.Nodm
open Go.ChangeShapes Go.WideShapes Go.ChangeAt Go.RowKit Go.Deep
set_option linter.unusedVariables false
set_option maxRecDepth 20000
open Go.Proofs.YtlobkgohenebmaaDoor.Stepx (Nodes)

def cellsOf (L : List Stepx.Node) : List Value := L.flatMap fun x => [.int .i64 x.1, .int .i64 x.2.1, .string x.2.2]
theorem cells_len (L : List Stepx.Node) : (cellsOf L).length = L.length * 3 := by
  unfold cellsOf
  induction L with
  | nil => rfl
  | cons x L ih => rw [List.flatMap_cons, List.length_append, ih, List.length_cons]; simp; omega
theorem cells_snoc (L : List Stepx.Node) (x : Stepx.Node) : cellsOf (L ++ [x]) = cellsOf L ++ [.int .i64 x.1, .int .i64 x.2.1, .string x.2.2] := by
  unfold cellsOf; rw [List.flatMap_append]; rfl
theorem cells_at : ∀ (L : List Stepx.Node) (i : Nat) (h : i < L.length), (cellsOf L)[i * 3]? = some (.int .i64 L[i].1) ∧ (cellsOf L)[i * 3 + 1]? = some (.int .i64 L[i].2.1) ∧ (cellsOf L)[i * 3 + 2]? = some (.string L[i].2.2)
  | [], i, h => absurd h (Nat.not_lt_zero _)
  | x :: L, 0, _ => ⟨rfl, rfl, rfl⟩
  | x :: L, i + 1, h => by
    have ih := cells_at L i (by simpa using h)
    have e : cellsOf (x :: L) = .int .i64 x.1 :: .int .i64 x.2.1 :: .string x.2.2 :: cellsOf L := rfl
    rw [e, show (i + 1) * 3 = i * 3 + 1 + 1 + 1 by omega]
    simp only [List.getElem?_cons_succ, List.getElem_cons_succ]
    exact ih
abbrev Own (w : World) (base : Nat) (v : Value) (L : List Stepx.Node) : Prop := w.ownsRow base 36 3 v L.length (cellsOf L)
theorem nodes_own {w : World} {base : Nat} {a : Option Addr} {n cap : Nat} {L : List Stepx.Node} (h : Own w base (.slice a n cap) L) (hz : ∀ x ∈ L, x.2.2.size ≤ 1048576) : Nodes w a L := by
  rcases h.2 with ⟨hv, h0⟩ | ⟨g, c, cur, hv, hb, hg, hn, hm, hs, ht⟩
  · exact .inl (List.length_eq_zero_iff.1 h0)
  · cases hv
    have hl := (h.lt g rfl).2
    refine .inr ⟨g, 0, rfl, hl, fun i hi => ?_⟩
    have hc := h.cellAt
    obtain ⟨a1, a2, a3⟩ := cells_at L i hi
    rw [Nat.zero_add]
    refine ⟨(hc (i * 3) (by omega)).trans a1, (hc (i * 3 + 1) (by omega)).trans a2, (hc (i * 3 + 2) (by omega)).trans a3, ?_⟩
    have := hz L[i] (List.getElem_mem hi)
    unfold maxLen; omega
theorem own_below {w w1 : World} {base : Nat} {v : Value} {L : List Stepx.Node} (h : Own w base v L) (hb : Below w.heap.size w w1) : Own w1 base v L :=
  h.kept (row := none) ⟨hb.os, hb.tape, hb.output, hb.size, fun k hk _ => hb.block k hk⟩ (by cases hv : Value.ownBlock v <;> simp)
/-- A number's decimal digits, ahead of a text. -/
def dg (n : Int) (t : ByteArray) : ByteArray := if n ≤ 0 then t else dg (n / 10) (strOfNums [48 + n % 10] ++ t)
termination_by n.toNat
decreasing_by omega
theorem dg_end {n : Int} {t : ByteArray} (h : n ≤ 0) : dg n t = t := by rw [dg, if_pos h]
theorem dg_step {n : Int} {t : ByteArray} (h : ¬ n ≤ 0) : dg n t = dg (n / 10) (strOfNums [48 + n % 10] ++ t) := by rw [dg, if_neg h]
def mark (k : Int) : ByteArray := ⟨#[109]⟩ ++ dg k ⟨#[]⟩
theorem one_size (x : Int) : (strOfNums [x]).size = 1 := strOfNums_size _
theorem cat_size (x : Int) (t : ByteArray) : (strOfNums [x] ++ t).size = t.size + 1 := by rw [ByteArray.size_append, one_size]; omega

theorem grown_of_below {w w1 : World} (hb : Below w.heap.size w w1) (row : Option Nat) : w.grownBy w1 row := ⟨hb.os, hb.tape, hb.output, hb.size, fun k hk _ => hb.block k hk⟩
theorem own_belowG {w w1 : World} {base : Nat} {e : TypeId} {size : Nat} {v : Value} {n : Nat} {xs : List Value} (h : w.ownsRow base e size v n xs) (hb : Below w.heap.size w w1) : w1.ownsRow base e size v n xs :=
  h.kept (grown_of_below hb none) (by cases hv : Value.ownBlock v <;> simp)
theorem grown_set (w : World) (g i : Nat) (u : Value) : w.grownBy (w.setCell ⟨g, i, none⟩ u) (some g) :=
  ⟨rfl, rfl, rfl, by simp [World.setCell], fun k _ hk => Below.heap_setCell _ _ _ _ (fun e => hk (by rw [e]))⟩


def markS (i : Nat) : Stepx.Node := (1 + 3 * (i : Int), 2 + 3 * (i : Int), mark (3 + 3 * (i : Int)))
def marks (n : Nat) : List Stepx.Node := (List.range n).map markS
theorem marks_len (n : Nat) : (marks n).length = n := by unfold marks; simp
theorem marks_snoc (n : Nat) : marks (n + 1) = marks n ++ [markS n] := by unfold marks; rw [List.range_succ, List.map_append]; rfl
theorem cells_app (P R : List Stepx.Node) : cellsOf (P ++ R) = cellsOf P ++ cellsOf R := by unfold cellsOf; rw [List.flatMap_append]
theorem set3 (P R : List Stepx.Node) (x y : Stepx.Node) (k : Nat) (h : P.length = k) : (((cellsOf (P ++ x :: R)).set (k * 3) (.int .i64 y.1)).set (k * 3 + 1) (.int .i64 y.2.1)).set (k * 3 + 2) (.string y.2.2) = cellsOf (P ++ y :: R) := by
  have e : ∀ z : Stepx.Node, cellsOf (P ++ z :: R) = cellsOf P ++ (.int .i64 z.1 :: .int .i64 z.2.1 :: .string z.2.2 :: cellsOf R) := fun z => cells_app P (z :: R)
  have hl : (cellsOf P).length = k * 3 := by rw [cells_len, h]
  rw [e, e]
  rw [List.set_append_right _ _ (by omega), List.set_append_right _ _ (by omega), List.set_append_right _ _ (by omega), hl]
  rw [show k * 3 - k * 3 = 0 by omega, show k * 3 + 1 - k * 3 = 1 by omega, show k * 3 + 2 - k * 3 = 2 by omega]
  rfl
def mid (k : Nat) (L : List Stepx.Node) : List Stepx.Node := marks k ++ L.drop k
theorem mid_step {k : Nat} {L : List Stepx.Node} (h : k < L.length) : (((cellsOf (mid k L)).set (k * 3) (.int .i64 (1 + 3 * (k : Int)))).set (k * 3 + 1) (.int .i64 (2 + 3 * (k : Int)))).set (k * 3 + 2) (.string (mark (3 + 3 * (k : Int)))) = cellsOf (mid (k + 1) L) := by
  unfold mid
  rw [List.drop_eq_getElem_cons h, marks_snoc, List.append_assoc]
  exact set3 (marks k) (L.drop (k + 1)) L[k] (markS k) k (marks_len k)
theorem mid_end {L : List Stepx.Node} : mid L.length L = marks L.length := by unfold mid; rw [List.drop_length, List.append_nil]
theorem mid_len {k : Nat} {L : List Stepx.Node} (h : k ≤ L.length) : (mid k L).length = L.length := by unfold mid; rw [List.length_append, marks_len, List.length_drop]; omega

theorem marks_at (n k : Nat) (h : k < n) : (cellsOf (marks n))[k * 3]? = some (.int .i64 (1 + 3 * (k : Int))) ∧ (cellsOf (marks n))[k * 3 + 1]? = some (.int .i64 (2 + 3 * (k : Int))) ∧ (cellsOf (marks n))[k * 3 + 2]? = some (.string (mark (3 + 3 * (k : Int)))) := by
  have h' := cells_at (marks n) k (by rw [marks_len]; exact h)
  have e : (marks n)[k]'(by rw [marks_len]; exact h) = markS k := by unfold marks; simp
  rw [e] at h'
  exact h'
end Go.Proofs.YtlobkgohenebmaaDoor.Nodm
