/-
  Rows of nodes that a call owns; contracts of ours for the laws' marks on them: markText, markENodeS, heldENodeS.
-/
import Derived.Test.YtnlcfppgpbfmiaaMirror
import Derived.Laws.OwnMore
import Derived.Laws.BytesArg
import Derived.Maps.AppendAt
namespace Go.Proofs.Ytnlcfppgpbfmiaa.Nodm
open Go.ChangeShapes Go.WideShapes Go.ChangeAt Go.RowKit Go.Deep
set_option linter.unusedVariables false
set_option maxRecDepth 20000
open Go.Proofs.Ytnlcfppgpbfmiaa.Stepx (Nodes)

def cellsOf (L : List Stepx.Node) : List Value := L.flatMap fun x => [.int .i64 x.1, .int .i64 x.2.1, .string x.2.2]
theorem cells_len (L : List Stepx.Node) : (cellsOf L).length = L.length * 3 := by
  unfold cellsOf
  induction L with
  | nil => rfl
  | cons x L ih => rw [List.flatMap_cons, List.length_append, ih, List.length_cons]; simp; omega
theorem cells_snoc (L : List Stepx.Node) (x : Stepx.Node) : cellsOf (L ++ [x]) = cellsOf L ++ [.int .i64 x.1, .int .i64 x.2.1, .string x.2.2] := by
  unfold cellsOf; rw [List.flatMap_append]; rfl
theorem cells_at : ∀ (L : List Stepx.Node) (i : Nat) (h : i < L.length), (cellsOf L)[i * 3]? = some (.int .i64 L[i].1) ∧ (cellsOf L)[i * 3 + 1]? = some (.int .i64 L[i].2.1) ∧ (cellsOf L)[i * 3 + 2]? = some (.string L[i].2.2)
  | [], i, h => absurd h (Nat.not_lt_zero _)
  | x :: L, 0, _ => ⟨rfl, rfl, rfl⟩
  | x :: L, i + 1, h => by
    have ih := cells_at L i (by simpa using h)
    have e : cellsOf (x :: L) = .int .i64 x.1 :: .int .i64 x.2.1 :: .string x.2.2 :: cellsOf L := rfl
    rw [e, show (i + 1) * 3 = i * 3 + 1 + 1 + 1 by omega]
    simp only [List.getElem?_cons_succ, List.getElem_cons_succ]
    exact ih
abbrev Own (w : World) (base : Nat) (v : Value) (L : List Stepx.Node) : Prop := w.ownsRow base 48 3 v L.length (cellsOf L)
theorem nodes_own {w : World} {base : Nat} {a : Option Addr} {n cap : Nat} {L : List Stepx.Node} (h : Own w base (.slice a n cap) L) (hz : ∀ x ∈ L, x.2.2.size ≤ 1048576) : Nodes w a L := by
  rcases h.2 with ⟨hv, h0⟩ | ⟨g, c, cur, hv, hb, hg, hn, hm, hs, ht⟩
  · exact .inl (List.length_eq_zero_iff.1 h0)
  · cases hv
    have hl := (h.lt g rfl).2
    refine .inr ⟨g, 0, rfl, hl, fun i hi => ?_⟩
    have hc := h.cellAt
    obtain ⟨a1, a2, a3⟩ := cells_at L i hi
    rw [Nat.zero_add]
    refine ⟨(hc (i * 3) (by omega)).trans a1, (hc (i * 3 + 1) (by omega)).trans a2, (hc (i * 3 + 2) (by omega)).trans a3, ?_⟩
    have := hz L[i] (List.getElem_mem hi)
    unfold maxLen; omega
theorem own_below {w w1 : World} {base : Nat} {v : Value} {L : List Stepx.Node} (h : Own w base v L) (hb : Below w.heap.size w w1) : Own w1 base v L :=
  h.kept (row := none) ⟨hb.os, hb.tape, hb.output, hb.size, fun k hk _ => hb.block k hk⟩ (by cases hv : Value.ownBlock v <;> simp)
/-- A number's decimal digits, ahead of a text. -/
def dg (n : Int) (t : ByteArray) : ByteArray := if n ≤ 0 then t else dg (n / 10) (strOfNums [48 + n % 10] ++ t)
termination_by n.toNat
decreasing_by omega
theorem dg_end {n : Int} {t : ByteArray} (h : n ≤ 0) : dg n t = t := by rw [dg, if_pos h]
theorem dg_step {n : Int} {t : ByteArray} (h : ¬ n ≤ 0) : dg n t = dg (n / 10) (strOfNums [48 + n % 10] ++ t) := by rw [dg, if_neg h]
def mark (k : Int) : ByteArray := ⟨#[109]⟩ ++ dg k ⟨#[]⟩
theorem one_size (x : Int) : (strOfNums [x]).size = 1 := strOfNums_size _
theorem cat_size (x : Int) (t : ByteArray) : (strOfNums [x] ++ t).size = t.size + 1 := by rw [ByteArray.size_append, one_size]; omega

set_option maxHeartbeats 400000 in
theorem markText_any (n : Int) (w : World) (h0 : 0 < n) (h1 : n ≤ 1000000000) :
    Calls Try.prog 33 #[.int .i64 n] w fun e w' => e = .returned (.string (mark n)) ∧ Below w.heap.size w w' := by
  have hcv : ∀ (u : World) (x : Int), (convert 91 9 (.slice (some ⟨u.heap.size, 0, none⟩) 1 1)).run Try.prog (u.alloc (.cells #[.int .u8 x] 5)) = .ok (.string (strOfNums [x])) (u.alloc (.cells #[.int .u8 x] 5)) := fun u x =>
    run_convert_bytes_arg _ 91 5 Try.underlying91 Try.underlying5 u.heap.size 0 1 1 [x] rfl (fun i hi => by
      rw [Nat.zero_add, World.cell?_alloc_new]
      match i, hi with
      | 0, _ => rfl) 9 Try.underlying9
  have hsz := one_size
  obtain ⟨r, hr⟩ : ∃ r, r = dg n ⟨#[]⟩ := ⟨_, rfl⟩
  have hm : mark n = ⟨#[109]⟩ ++ r := by rw [hr]; rfl
  rw [hm]
  clear hm
  go_enter Try.func33, Try.ntmps33
  go_wp2
  go_loopw [0, 3] (fun v t wr => ∃ (m : Int) (s : ByteArray), 0 ≤ m ∧ (s.size : Int) + m ≤ n ∧ v = .int .i64 m ∧ t = .string s ∧ Hid (r = dg m s) ∧ Hid (Below w.heap.size w wr)) (fun v _ _ => (intOf v).toNat)
  case atStart => exact ⟨n, ⟨#[]⟩, by omega, by show ((0 : Nat) : Int) + n ≤ n; omega, rfl, rfl, hr, Below.refl _ _⟩
  case round =>
    clear hr
    obtain ⟨m, s, hm0, hm1, rfl, rfl, hr, hb⟩ := hrel
    by_cases hlt : 0 < m
    · have HR : Hid (r = dg (m / 10) (strOfNums [48 + m % 10] ++ s)) := by have := hr.out; rw [dg_step (by omega)] at this; exact this
      clear hr
      go_wp2
      go_roundw
      case rel => exact ⟨m / 10, strOfNums [48 + m % 10] ++ s, by omega, by rw [cat_size]; omega, rfl, rfl, HR, hb.out.alloc hb.out.size _⟩
      case measure => simp [intOf]; omega
    · have HR : Hid (r = s) := by have := hr.out; rw [dg_end (by omega)] at this; exact this
      clear hr
      go_wp2
      go_ret
      exact ⟨by rw [HR.out]; rfl, hb.out⟩

theorem grown_of_below {w w1 : World} (hb : Below w.heap.size w w1) (row : Option Nat) : w.grownBy w1 row := ⟨hb.os, hb.tape, hb.output, hb.size, fun k hk _ => hb.block k hk⟩
theorem own_belowG {w w1 : World} {base : Nat} {e : TypeId} {size : Nat} {v : Value} {n : Nat} {xs : List Value} (h : w.ownsRow base e size v n xs) (hb : Below w.heap.size w w1) : w1.ownsRow base e size v n xs :=
  h.kept (grown_of_below hb none) (by cases hv : Value.ownBlock v <;> simp)
theorem grown_set (w : World) (g i : Nat) (u : Value) : w.grownBy (w.setCell ⟨g, i, none⟩ u) (some g) :=
  ⟨rfl, rfl, rfl, by simp [World.setCell], fun k _ hk => Below.heap_setCell _ _ _ _ (fun e => hk (by rw [e]))⟩


def markS (i : Nat) : Stepx.Node := (1 + 3 * (i : Int), 2 + 3 * (i : Int), mark (3 + 3 * (i : Int)))
def marks (n : Nat) : List Stepx.Node := (List.range n).map markS
theorem marks_len (n : Nat) : (marks n).length = n := by unfold marks; simp
theorem marks_snoc (n : Nat) : marks (n + 1) = marks n ++ [markS n] := by unfold marks; rw [List.range_succ, List.map_append]; rfl
theorem cells_app (P R : List Stepx.Node) : cellsOf (P ++ R) = cellsOf P ++ cellsOf R := by unfold cellsOf; rw [List.flatMap_append]
theorem set3 (P R : List Stepx.Node) (x y : Stepx.Node) (k : Nat) (h : P.length = k) : (((cellsOf (P ++ x :: R)).set (k * 3) (.int .i64 y.1)).set (k * 3 + 1) (.int .i64 y.2.1)).set (k * 3 + 2) (.string y.2.2) = cellsOf (P ++ y :: R) := by
  have e : ∀ z : Stepx.Node, cellsOf (P ++ z :: R) = cellsOf P ++ (.int .i64 z.1 :: .int .i64 z.2.1 :: .string z.2.2 :: cellsOf R) := fun z => cells_app P (z :: R)
  have hl : (cellsOf P).length = k * 3 := by rw [cells_len, h]
  rw [e, e]
  rw [List.set_append_right _ _ (by omega), List.set_append_right _ _ (by omega), List.set_append_right _ _ (by omega), hl]
  rw [show k * 3 - k * 3 = 0 by omega, show k * 3 + 1 - k * 3 = 1 by omega, show k * 3 + 2 - k * 3 = 2 by omega]
  rfl
def mid (k : Nat) (L : List Stepx.Node) : List Stepx.Node := marks k ++ L.drop k
theorem mid_step {k : Nat} {L : List Stepx.Node} (h : k < L.length) : (((cellsOf (mid k L)).set (k * 3) (.int .i64 (1 + 3 * (k : Int)))).set (k * 3 + 1) (.int .i64 (2 + 3 * (k : Int)))).set (k * 3 + 2) (.string (mark (3 + 3 * (k : Int)))) = cellsOf (mid (k + 1) L) := by
  unfold mid
  rw [List.drop_eq_getElem_cons h, marks_snoc, List.append_assoc]
  exact set3 (marks k) (L.drop (k + 1)) L[k] (markS k) k (marks_len k)
theorem mid_end {L : List Stepx.Node} : mid L.length L = marks L.length := by unfold mid; rw [List.drop_length, List.append_nil]
theorem mid_len {k : Nat} {L : List Stepx.Node} (h : k ≤ L.length) : (mid k L).length = L.length := by unfold mid; rw [List.length_append, marks_len, List.length_drop]; omega

set_option maxHeartbeats 2000000 in
theorem markENodeS_any (v : Value) (n : Nat) (L : List Stepx.Node) (base : Nat) (w : World) (hown : w.ownsRow base 48 3 v n (cellsOf L)) (hL : L.length = n) (hn : n ≤ 10000000) :
    Calls Try.prog 16 #[v, .int .i64 1] w fun e w' => e = .returned (.int .i64 (1 + 3 * (n : Int))) ∧ w'.ownsRow base 48 3 v n (cellsOf (marks n)) ∧ w.grownBy w' v.ownBlock := by
  rcases hown.2 with ⟨rfl, rfl⟩ | ⟨g, cap, cur, rfl, hbg, hg, hnc, hcm, hcs, htake⟩
  · go_enter Try.func16, Try.ntmps16
    go_wp2
    go_loopw [1, 5] (fun k i wr => k = .int .i64 1 ∧ i = .int .i64 0 ∧ wr = w) (fun _ _ _ => 0)
    case atStart => exact ⟨rfl, rfl, rfl⟩
    case round =>
      obtain ⟨rfl, rfl, rfl⟩ := hrel
      go_wp2
      go_ret
      exact ⟨rfl, World.ownsRow_nil _ _ _ _, World.grownBy.refl _ _⟩
  clear hg hcs htake hcm
  have HO : Hid (w.ownsRow base 48 3 (.slice (some ⟨g, 0, none⟩) n cap) n (cellsOf (mid 0 L))) := hown
  have HL : Hid (L.length = n) := hL
  clear hown hL
  go_enter Try.func16, Try.ntmps16
  go_wp2
  go_loopw [1, 5] (fun c i wr => ∃ k : Nat, k ≤ n ∧ i = .int .i64 k ∧ c = .int .i64 (1 + 3 * (k : Int)) ∧ Hid (wr.ownsRow base 48 3 (.slice (some ⟨g, 0, none⟩) n cap) n (cellsOf (mid k L))) ∧ Hid (w.grownBy wr (some g))) (fun _ i _ => n - (intOf i).toNat)
  case atStart => exact ⟨0, Nat.zero_le _, rfl, rfl, HO.out, World.grownBy.refl _ _⟩
  case round =>
    obtain ⟨k, hk, rfl, rfl, hown, hgr⟩ := hrel
    clear HO
    by_cases hlt : k < n
    · have hkL : k < L.length := by have := HL.out; omega
      have cm := fun w => markText_any (3 + 3 * (k : Int)) w (by omega) (by omega)
      have HS : Hid ((((cellsOf (mid k L)).set (k * 3) (.int .i64 (1 + 3 * (k : Int)))).set (k * 3 + 1) (.int .i64 (2 + 3 * (k : Int)))).set (k * 3 + 2) (.string (mark (3 + 3 * (k : Int)))) = cellsOf (mid (k + 1) L)) := mid_step hkL
      generalize mark (3 + 3 * (k : Int)) = t at cm HS
      have own1 := hown.out
      have hlen : (cellsOf (mid k L)).length = n * 3 := own1.1
      have f0 : ∀ j, wr.frozen? ⟨g, j, none⟩ = false := fun j => own1.frozenAt j
      obtain ⟨x0, c0⟩ : ∃ x, wr.cell? ⟨g, k * 3, none⟩ = some x := ⟨_, (own1.cellAt (k * 3) (by omega)).trans (List.getElem?_eq_getElem (by omega))⟩
      have h1 := (own1.stored (k * 3) (.int .i64 (1 + 3 * (k : Int)))).1
      obtain ⟨x1, c1⟩ : ∃ x, (wr.setCell ⟨g, k * 3, none⟩ (.int .i64 (1 + 3 * (k : Int)))).cell? ⟨g, k * 3 + 1, none⟩ = some x := ⟨_, (h1.cellAt (k * 3 + 1) (by omega)).trans (List.getElem?_eq_getElem (by rw [List.length_set]; omega))⟩
      have h2 := (h1.stored (k * 3 + 1) (.int .i64 (2 + 3 * (k : Int)))).1
      have f1 : ∀ j, (wr.setCell ⟨g, k * 3, none⟩ (.int .i64 (1 + 3 * (k : Int)))).frozen? ⟨g, j, none⟩ = false := fun j => h1.frozenAt j
      have H2 : Hid (World.ownsRow ((wr.setCell ⟨g, k * 3, none⟩ (.int .i64 (1 + 3 * (k : Int)))).setCell ⟨g, k * 3 + 1, none⟩ (.int .i64 (2 + 3 * (k : Int)))) base 48 3 (.slice (some ⟨g, 0, none⟩) n cap) n (((cellsOf (mid k L)).set (k * 3) (.int .i64 (1 + 3 * (k : Int)))).set (k * 3 + 1) (.int .i64 (2 + 3 * (k : Int))))) := h2
      have G2 : Hid (w.grownBy ((wr.setCell ⟨g, k * 3, none⟩ (.int .i64 (1 + 3 * (k : Int)))).setCell ⟨g, k * 3 + 1, none⟩ (.int .i64 (2 + 3 * (k : Int)))) (some g)) := hgr.out.trans ((grown_set _ _ _ _).trans (grown_set _ _ _ _))
      have k1 : (1 : Int) + 3 * (k : Int) + 1 = 2 + 3 * (k : Int) := by omega
      have k2 : (2 : Int) + 3 * (k : Int) + 1 = 3 + 3 * (k : Int) := by omega
      clear h1 h2 own1 hown hgr hlen
      go_wp2_with fail
      refine (cm _).mono ?_
      rintro e w1 ⟨rfl, hb1⟩
      have own3 := own_belowG H2.out hb1
      have hl3 := own3.1
      have f2 : ∀ j, w1.frozen? ⟨g, j, none⟩ = false := fun j => own3.frozenAt j
      obtain ⟨x2, c2⟩ : ∃ x, w1.cell? ⟨g, k * 3 + 2, none⟩ = some x := ⟨_, (own3.cellAt (k * 3 + 2) (by omega)).trans (List.getElem?_eq_getElem (by omega))⟩
      have h3 := (own3.stored (k * 3 + 2) (.string t)).1
      rw [HS.out] at h3
      have OW : Hid (World.ownsRow _ base 48 3 (.slice (some ⟨g, 0, none⟩) n cap) n (cellsOf (mid (k + 1) L))) := h3
      have GR : Hid (w.grownBy (w1.setCell ⟨g, k * 3 + 2, none⟩ (.string t)) (some g)) := G2.out.trans ((grown_of_below hb1 (some g)).trans (grown_set _ _ _ _))
      clear h3 own3 hb1 cm HS hl3 H2 G2 c0 c1 f0 f1
      go_wp2_with fail
      go_roundw
      case rel => exact ⟨k + 1, by omega, by go_num, by congr 1; omega, OW.out, GR.out⟩
      case measure => simp [intOf]; omega
    · have e : k = n := by omega
      subst e
      have HM : Hid (mid k L = marks k) := by show _ = _; rw [← HL.out]; exact mid_end
      go_wp2
      go_ret
      exact ⟨rfl, by rw [← HM.out]; exact hown.out, hgr.out⟩

theorem marks_at (n k : Nat) (h : k < n) : (cellsOf (marks n))[k * 3]? = some (.int .i64 (1 + 3 * (k : Int))) ∧ (cellsOf (marks n))[k * 3 + 1]? = some (.int .i64 (2 + 3 * (k : Int))) ∧ (cellsOf (marks n))[k * 3 + 2]? = some (.string (mark (3 + 3 * (k : Int)))) := by
  have h' := cells_at (marks n) k (by rw [marks_len]; exact h)
  have e : (marks n)[k]'(by rw [marks_len]; exact h) = markS k := by unfold marks; simp
  rw [e] at h'
  exact h'
end Go.Proofs.Ytnlcfppgpbfmiaa.Nodm
