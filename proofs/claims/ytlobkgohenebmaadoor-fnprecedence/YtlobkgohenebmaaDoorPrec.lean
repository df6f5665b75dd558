/-
  Pure: what the four texts of numbers and ops are read as.
-/
import Derived.Test.YtlobkgohenebmaaDoorPrsm
namespace Go.Proofs.YtlobkgohenebmaaDoor.Prec
open Prsp Prsl Prsm
set_option linter.unusedVariables false
set_option linter.unusedSimpArgs false

/-- A number's digits. -/
def D (n : Nat) : List UInt8 :=
  if n < 10 then [UInt8.ofNat (48 + n)] else if n < 100 then [UInt8.ofNat (48 + n / 10), UInt8.ofNat (48 + n % 10)]
  else [UInt8.ofNat (48 + n / 100), UInt8.ofNat (48 + n / 10 % 10), UInt8.ofNat (48 + n % 10)]
def okD (n : Nat) : Bool := decide (Nums.num (bs (D n)) = some (n : Int)) && (D n).all isW && decide (48 ≤ hd (D n) ∧ hd (D n) ≤ 57) && decide (D n ≠ []) && decide ((D n).length ≤ 3)
theorem okD_all : ∀ n : Fin 257, okD n.val = true := by decide +kernel
structure Dig (n : Nat) : Prop where
  num : Nums.num (bs (D n)) = some (n : Int)
  all : ∀ c ∈ D n, isW c = true
  lo : 48 ≤ hd (D n)
  hi : hd (D n) ≤ 57
  ne : D n ≠ []
  len : (D n).length ≤ 3
theorem dig (n : Nat) (h : n ≤ 256) : Dig n := by
  have := okD_all ⟨n, by omega⟩
  unfold okD at this
  simp only [Bool.and_eq_true, decide_eq_true_eq, List.all_eq_true] at this
  exact ⟨this.1.1.1.1, this.1.1.1.2, this.1.1.2.1, this.1.1.2.2, this.1.2, this.2⟩
/-- No word goes on. -/
def Stop (r : List UInt8) : Prop := wd r = [] ∧ af r = r
theorem stop_nil : Stop [] := ⟨rfl, rfl⟩
theorem stop_cons {c : UInt8} (r : List UInt8) (h : isW c = false) : Stop (c :: r) := by
  constructor
  · unfold wd; rw [List.takeWhile_cons, if_neg (by rw [h]; decide)]
  · unfold af; rw [List.dropWhile_cons, if_neg (by rw [h]; decide)]
theorem wd_num {n : Nat} (h : Dig n) {r : List UInt8} (hr : Stop r) : wd (D n ++ r) = D n := by
  unfold wd; rw [List.takeWhile_append_of_pos h.all]; show D n ++ wd r = _; rw [hr.1, List.append_nil]
theorem af_num {n : Nat} (h : Dig n) {r : List UInt8} (hr : Stop r) : af (D n ++ r) = r := by
  unfold af; rw [List.dropWhile_append_of_pos h.all]; exact hr.2
theorem hd_num {n : Nat} (h : Dig n) (r : List UInt8) : hd (D n ++ r) = hd (D n) := by
  have := h.ne
  cases e : D n with
  | nil => exact absurd e this
  | cons c t => rfl
theorem val_num (k n : Nat) (hn : n ≤ 256) (r : List UInt8) (hr : Stop r) (L : List Stepx.Node) (hL : L.length < 30) : val (k + 1) (D n ++ r, L) = some (r, L ++ [(1, (n : Int), E0)]) := by
  have h := dig n hn
  have h1 := h.lo
  have h2 := h.hi
  rw [val_succ]
  have e : hd (D n ++ r, L).1 = hd (D n) := hd_num h r
  unfold valueF
  rw [e, if_neg (by omega), if_neg (by omega), if_neg (by omega)]
  unfold wordF
  have es : signed (D n ++ r, L).1 = false := decide_eq_false (by rw [e]; omega)
  have eo : ∀ t : List UInt8, hd t = 104 ∨ hd t = 108 ∨ hd t = 98 → opens (D n ++ r, L).1 t = false := fun t ht => decide_eq_false (fun q => by
    have := q.2
    have e3 : wd (D n ++ r, L).1 = D n := wd_num h hr
    rw [e3] at this
    rw [this] at h1 h2
    omega)
  rw [es, eo high (.inl rfl), eo low (.inr (.inl rfl)), eo bank (.inr (.inr rfl)), if_neg (by decide), if_neg (by decide), if_neg (by decide), if_neg (by decide)]
  show leafF (bs (wd (D n ++ r))) (af (D n ++ r), L) = _
  rw [wd_num h hr, af_num h hr]
  unfold leafF
  rw [h.num]
  show put _ _ = _
  unfold put
  rw [if_pos hL]
theorem lev_num (k n : Nat) (hn : n ≤ 256) (least : Int) (r : List UInt8) (hr : Stop r) (L : List Stepx.Node) (hL : L.length < 30) : lev (k + 1) least (D n ++ r, L) = loopF (lev k) least (r, L ++ [(1, (n : Int), E0)]) := by
  rw [lev_succ, val_num k n hn r hr L hL]; rfl
theorem lev_last (k n : Nat) (hn : n ≤ 256) (least : Int) (hl : 1 ≤ least) (L : List Stepx.Node) (hL : L.length < 30) : lev (k + 1) least (D n, L) = some ([], L ++ [(1, (n : Int), E0)]) := by
  have := lev_num k n hn least [] stop_nil L hL
  rw [List.append_nil] at this
  rw [this]
  exact loop_stop (show tgt (opK []) < least from by have : tgt (opK []) = 0 := by decide
                                                     omega)
theorem op_cons (c : UInt8) (r : List UInt8) (o : Int) (h60 : c ≠ 60) (h62 : c ≠ 62) (h : opK [c] = o) : opK (c :: r) = o := by
  rw [← h]
  unfold opK
  have t1 : ∀ (d : UInt8) (q : List UInt8), c ≠ d → (c :: q).take 2 ≠ [d, d] := fun d q hd e => hd (by rw [List.take_succ_cons] at e; exact (List.cons.inj e).1)
  rw [if_neg (t1 60 r h60), if_neg (t1 62 r h62), if_neg (t1 60 [] h60), if_neg (t1 62 [] h62)]
  rfl
theorem loop_op {f : Int → St → Option St} {least : Int} {c : UInt8} {r r' : List UInt8} {L L' : List Stepx.Node} {o : Int} (ho : opK (c :: r) = o) (h1 : 8 ≤ o ∧ o ≤ 15) (ht : ¬ tgt o < least)
    (hf : f (tgt o + 1) (r, L) = some (r', L')) (hL : L'.length < 30) (hr : r'.length ≤ r.length) : loopF f least (c :: r, L) = loopF f least (r', L' ++ [(o, 0, E0)]) := by
  refine loop_go (s := (c :: r, L)) (s' := (r', L' ++ [(o, 0, E0)])) (by show ¬ tgt (opK (c :: r)) < least; rw [ho]; exact ht) ?_ (by show r'.length < r.length + 1; omega)
  unfold stepF
  show (f (tgt (opK (c :: r)) + 1) ((c :: r).drop (opL (opK (c :: r))), L)).bind (put (opK (c :: r), 0, E0)) = _
  rw [ho, show opL o = 1 from by unfold opL; rw [if_neg (by omega)]]
  show (f (tgt o + 1) (r, L)).bind _ = _
  rw [hf]
  show put _ _ = _
  unfold put
  rw [if_pos hL]
theorem loop_end {f : Int → St → Option St} {least : Int} (hl : 1 ≤ least) (L : List Stepx.Node) : loopF f least ([], L) = some ([], L) := loop_stop (show tgt (opK []) < least from by
  have : tgt (opK []) = 0 := by decide
  omega)
theorem comp_of {k : Nat} {l : List UInt8} {L : List Stepx.Node} (h : lev k 1 (l, []) = some ([], L)) : comp k l = some L := by unfold comp; rw [h]
abbrev nm (n : Nat) : Stepx.Node := (1, (n : Int), E0)
abbrev op (o : Int) : Stepx.Node := (o, 0, E0)

theorem one (k a b c : Nat) (ha : a ≤ 256) (hb : b ≤ 256) (hc : c ≤ 256) : comp (k + 3) (D a ++ 43 :: (D b ++ 42 :: D c)) = some [nm a, nm b, nm c, op 10, op 8] := by
  refine comp_of ?_
  rw [lev_num (k + 2) a ha 1 _ (stop_cons _ (by decide)) [] (by decide)]
  have i2 : lev (k + 1) 7 (D c, [nm a, nm b]) = some ([], [nm a, nm b, nm c]) := lev_last k c hc 7 (by decide) _ (by simp)
  have i1 : lev (k + 2) 6 (D b ++ 42 :: D c, [nm a]) = some ([], [nm a, nm b, nm c, op 10]) := by
    rw [lev_num (k + 1) b hb 6 _ (stop_cons _ (by decide)) [nm a] (by simp)]
    show loopF (lev (k + 1)) 6 (42 :: D c, [nm a, nm b]) = _
    rw [loop_op (o := 10) (op_cons 42 _ 10 (by decide) (by decide) (by decide)) (by decide) (by decide) i2 (by simp) (by simp)]
    exact loop_end (by decide) _
  show loopF (lev (k + 2)) 1 (43 :: (D b ++ 42 :: D c), [nm a]) = _
  rw [loop_op (o := 8) (op_cons 43 _ 8 (by decide) (by decide) (by decide)) (by decide) (by decide) i1 (by simp) (by simp)]
  exact loop_end (by decide) _

theorem two (k a b c : Nat) (ha : a ≤ 256) (hb : b ≤ 256) (hc : c ≤ 256) : comp (k + 3) (D a ++ 45 :: (D b ++ 45 :: D c)) = some [nm a, nm b, op 9, nm c, op 9] := by
  refine comp_of ?_
  rw [lev_num (k + 2) a ha 1 _ (stop_cons _ (by decide)) [] (by decide)]
  have i1 : lev (k + 2) 6 (D b ++ 45 :: D c, [nm a]) = some (45 :: D c, [nm a, nm b]) := by
    rw [lev_num (k + 1) b hb 6 _ (stop_cons _ (by decide)) [nm a] (by simp)]
    exact loop_stop (show tgt (opK (45 :: D c)) < 6 from by rw [op_cons 45 _ 9 (by decide) (by decide) (by decide)]; decide)
  have i2 : lev (k + 2) 6 (D c, [nm a, nm b, op 9]) = some ([], [nm a, nm b, op 9, nm c]) := lev_last (k + 1) c hc 6 (by decide) _ (by simp)
  show loopF (lev (k + 2)) 1 (45 :: (D b ++ 45 :: D c), [nm a]) = _
  rw [loop_op (o := 9) (op_cons 45 _ 9 (by decide) (by decide) (by decide)) (by decide) (by decide) i1 (by simp) (by simp)]
  show loopF (lev (k + 2)) 1 (45 :: D c, [nm a, nm b, op 9]) = _
  rw [loop_op (o := 9) (op_cons 45 _ 9 (by decide) (by decide) (by decide)) (by decide) (by decide) i2 (by simp) (by simp)]
  exact loop_end (by decide) _

theorem three (k a b c : Nat) (ha : a ≤ 256) (hb : b ≤ 256) (hc : c ≤ 256) : comp (k + 4) (40 :: (D a ++ 43 :: (D b ++ 41 :: 47 :: D c))) = some [nm a, nm b, op 8, nm c, op 11] := by
  refine comp_of ?_
  have i1 : lev (k + 2) 6 (D b ++ 41 :: 47 :: D c, [nm a]) = some (41 :: 47 :: D c, [nm a, nm b]) := by
    rw [lev_num (k + 1) b hb 6 _ (stop_cons _ (by decide)) [nm a] (by simp)]
    exact loop_stop (show tgt (opK (41 :: 47 :: D c)) < 6 from by rw [op_cons 41 _ 0 (by decide) (by decide) (by decide)]; decide)
  have i2 : lev (k + 3) 1 (D a ++ 43 :: (D b ++ 41 :: 47 :: D c), []) = some (41 :: 47 :: D c, [nm a, nm b, op 8]) := by
    rw [lev_num (k + 2) a ha 1 _ (stop_cons _ (by decide)) [] (by decide)]
    show loopF (lev (k + 2)) 1 (43 :: (D b ++ 41 :: 47 :: D c), [nm a]) = _
    rw [loop_op (o := 8) (op_cons 43 _ 8 (by decide) (by decide) (by decide)) (by decide) (by decide) i1 (by simp) (by simp)]
    exact loop_stop (show tgt (opK (41 :: 47 :: D c)) < 1 from by rw [op_cons 41 _ 0 (by decide) (by decide) (by decide)]; decide)
  have i3 : val (k + 4) (40 :: (D a ++ 43 :: (D b ++ 41 :: 47 :: D c)), []) = some (47 :: D c, [nm a, nm b, op 8]) := by
    rw [val_succ]
    unfold valueF
    rw [if_neg (by show ¬ (40 : Int) = 45; decide), if_neg (by show ¬ (40 : Int) = 126; decide), if_pos (by rfl)]
    unfold brF
    show (lev (k + 3) 1 (D a ++ 43 :: (D b ++ 41 :: 47 :: D c), [])).bind close = _
    rw [i2]
    rfl
  have i4 : lev (k + 3) 7 (D c, [nm a, nm b, op 8]) = some ([], [nm a, nm b, op 8, nm c]) := lev_last (k + 2) c hc 7 (by decide) _ (by simp)
  rw [lev_succ, i3]
  show loopF (lev (k + 3)) 1 (47 :: D c, [nm a, nm b, op 8]) = _
  rw [loop_op (o := 11) (op_cons 47 _ 11 (by decide) (by decide) (by decide)) (by decide) (by decide) i4 (by simp) (by simp)]
  exact loop_end (by decide) _

theorem four (k a b c : Nat) (ha : a ≤ 256) (hb : b ≤ 256) (hc : c ≤ 256) : comp (k + 3) (D a ++ 124 :: (D b ++ 38 :: D c)) = some [nm a, nm b, nm c, op 13, op 15] := by
  refine comp_of ?_
  rw [lev_num (k + 2) a ha 1 _ (stop_cons _ (by decide)) [] (by decide)]
  have i2 : lev (k + 1) 4 (D c, [nm a, nm b]) = some ([], [nm a, nm b, nm c]) := lev_last k c hc 4 (by decide) _ (by simp)
  have i1 : lev (k + 2) 2 (D b ++ 38 :: D c, [nm a]) = some ([], [nm a, nm b, nm c, op 13]) := by
    rw [lev_num (k + 1) b hb 2 _ (stop_cons _ (by decide)) [nm a] (by simp)]
    show loopF (lev (k + 1)) 2 (38 :: D c, [nm a, nm b]) = _
    rw [loop_op (o := 13) (op_cons 38 _ 13 (by decide) (by decide) (by decide)) (by decide) (by decide) i2 (by simp) (by simp)]
    exact loop_end (by decide) _
  show loopF (lev (k + 2)) 1 (124 :: (D b ++ 38 :: D c), [nm a]) = _
  rw [loop_op (o := 15) (op_cons 124 _ 15 (by decide) (by decide) (by decide)) (by decide) (by decide) i1 (by simp) (by simp)]
  exact loop_end (by decide) _
end Go.Proofs.YtlobkgohenebmaaDoor.Prec
