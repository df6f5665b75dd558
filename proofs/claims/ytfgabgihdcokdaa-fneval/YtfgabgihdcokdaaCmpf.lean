/-
  Contracts of ours for drawn expressions: expr and the draws that hand it on.
-/
import Derived.Test.YtfgabgihdcokdaaCmpe
import Derived.Test.YtfgabgihdcokdaaCmpd
namespace Go.Proofs.Ytfgabgihdcokdaa.Cmpf
open Go.ChangeShapes Go.WideShapes Go.ChangeAt Go.RowKit Go.Deep
open Rdr (Rd Post)
open Fine Cmpe
open Nodm (cellsOf Own)
set_option linter.unusedVariables false
set_option maxRecDepth 20000

theorem infix_any (rb : Nat) (w : World) (h : Rd w rb) : Calls Try.prog 26 #[.pointer (some ⟨rb, 0, none⟩), .int .i64 1] w (IQ 82 w rb) :=
  infix_step rb 1 38 w h (by decide) (by decide) (by decide) (by decide) fun w h =>
    infix_step rb 2 16 w h (by decide) (by decide) (by decide) (by decide) fun w h =>
      infix_step rb 3 5 w h (by decide) (by decide) (by decide) (by decide) fun w h => infix_deep rb w h

/-- A name that no op of one is called. -/
def Plain (t : ByteArray) : Prop := t ≠ ⟨#[110, 101, 103]⟩ ∧ t ≠ ⟨#[110, 111, 116]⟩ ∧ t ≠ ⟨#[104, 105, 103, 104]⟩ ∧ t ≠ ⟨#[108, 111, 119]⟩ ∧ t ≠ ⟨#[122, 122]⟩
theorem drop_pre {s t : ByteArray} {i : Nat} (h : Cmpa.here s i t = true) : ∃ r, s.data.toList.drop i = t.data.toList ++ r := by
  obtain ⟨h1, h2⟩ := of_decide_eq_true h
  refine ⟨s.data.toList.drop (i + t.size), ?_⟩
  have e : t.data.toList = (s.data.toList.drop i).take t.size := by
    conv => lhs; rw [← h2]
    rw [ByteArray.data_extract, Array.toList_extract, List.extract_eq_take_drop]
    congr 1
    omega
  rw [e, ← List.drop_drop, List.take_append_drop]
theorem pre_here {s t : ByteArray} {i : Nat} {r : List UInt8} (hi : i ≤ s.size) (h : s.data.toList.drop i = t.data.toList ++ r) : Cmpa.here s i t = true := by
  have hl : s.data.toList.length - i = t.data.toList.length + r.length := by have := congrArg List.length h; simpa using this
  have e1 : s.data.toList.length = s.size := rfl
  have e2 : t.data.toList.length = t.size := rfl
  refine decide_eq_true ⟨by omega, ?_⟩
  refine ByteArray.ext (Array.ext' ?_)
  rw [ByteArray.data_extract, Array.toList_extract, List.extract_eq_take_drop, h, show i + t.size - i = t.size by omega, ← e2, List.take_left]
theorem isPre {p l r : List UInt8} (h : l = p ++ r) : p.isPrefixOf l = true := by rw [h]; exact List.isPrefixOf_iff_prefix.2 ⟨r, rfl⟩
theorem preIs {p l : List UInt8} (h : p.isPrefixOf l = true) : ∃ r, l = p ++ r := by obtain ⟨r, hr⟩ := List.isPrefixOf_iff_prefix.1 h; exact ⟨r, hr.symm⟩
theorem plain_of {s t : ByteArray} (hf : F s) (h : Cmpa.Nm s t) (h0 : t.size ≠ 0) : Plain t := by
  obtain ⟨i, h1, h2⟩ := h
  have hs := (of_decide_eq_true h1).1
  have hi : i < s.data.toList.length := by show i < s.size; omega
  have ok := fine_at i hf hi
  obtain ⟨r, hr⟩ := drop_pre h1
  unfold okAt at ok
  simp only [Bool.and_eq_true, Bool.or_eq_true, Bool.not_eq_true'] at ok
  obtain ⟨⟨⟨⟨⟨⟨k1, k2⟩, k3⟩, k4⟩, k5⟩, k6⟩, k7⟩ := ok
  have no : ∀ p : List UInt8, t = ⟨p.toArray⟩ → p.isPrefixOf (s.data.toList.drop i) = true := fun p e => by
    subst e; exact isPre (r := r) (by rw [hr])
  have hlo : ∀ (p pb bp : List UInt8) (tb : ByteArray), tb.data.toList = pb → bp = Cmpa.tBank.data.toList ++ p → (p.isPrefixOf (s.data.toList.drop i) = false ∨ pb.isPrefixOf (s.data.toList.drop i) = true) → (Cmpa.here s i tb = false ∨ ∃ j, i = j + 5 ∧ Cmpa.here s j Cmpa.tBank = true) → (∀ j, j < s.data.toList.length → bp.isPrefixOf (s.data.toList.drop j) = false) → t ≠ ⟨p.toArray⟩ := by
    intro p pb bp tb e1 e2 a1 a2 a3 e
    have hp := no p e
    rcases a2 with a2 | ⟨j, hj, hb⟩
    · rcases a1 with a1 | a1
      · rw [hp] at a1; cases a1
      · obtain ⟨q, hq⟩ := preIs a1
        rw [← e1] at hq
        rw [pre_here (by show i ≤ s.size; omega) hq] at a2
        cases a2
    · obtain ⟨q, hq⟩ := drop_pre hb
      have hq5 : s.data.toList.drop i = q := by
        rw [hj, ← List.drop_drop, hq]
        exact List.drop_left' rfl
      obtain ⟨q', hq'⟩ := preIs hp
      rw [hq5] at hq'
      have := a3 j (by omega)
      rw [isPre (r := q') (by rw [hq, hq', e2, List.append_assoc])] at this
      cases this
  have bh : ∀ j, j < s.data.toList.length → pBh.isPrefixOf (s.data.toList.drop j) = false ∧ pBl.isPrefixOf (s.data.toList.drop j) = false := fun j hj => by
    have ok := fine_at j hf hj
    unfold okAt at ok
    simp only [Bool.and_eq_true, Bool.or_eq_true, Bool.not_eq_true'] at ok
    exact ⟨ok.1.1.2, ok.1.2⟩
  refine ⟨fun e => ?_, fun e => ?_, ?_, ?_, fun e => ?_⟩
  · rw [no pNeg e] at k1; cases k1
  · rw [no pNot e] at k2; cases k2
  · exact hlo pHi pHiB pBh Cmpa.tHigh rfl rfl k3 (h2.elim (fun x => .inl x.1) .inr) (fun j hj => (bh j hj).1)
  · exact hlo pLo pLoB pBl Cmpa.tLow rfl rfl k4 (h2.elim (fun x => .inl x.2) .inr) (fun j hj => (bh j hj).2)
  · rw [no pZz e] at k7; cases k7
def Nice (x : Stepx.Node) : Prop := x.2.2.size ≤ 200 ∧ Plain x.2.2
theorem plain0 : Plain ⟨#[]⟩ := ⟨by decide, by decide, by decide, by decide, by decide⟩
theorem nice_of {s : ByteArray} {x : Stepx.Node} (hf : F s) (h : Cmpa.Good s x) : Nice x := by
  refine ⟨h.1, ?_⟩
  by_cases h0 : x.2.2.size = 0
  · have : x.2.2 = ⟨#[]⟩ := ByteArray.ext (Array.eq_empty_of_size_eq_zero h0)
    rw [this]; exact plain0
  · rcases h.2 with h | h
    · exact absurd h h0
    · exact plain_of hf h h0
theorem cells_set : ∀ (L : List Stepx.Node) (k : Nat) (h : k < L.length) (v : Int), (cellsOf L).set (k * 3) (.int .i64 v) = cellsOf (L.set k (v, L[k].2))
  | [], k, h, _ => absurd h (Nat.not_lt_zero _)
  | x :: L, 0, _, v => rfl
  | x :: L, k + 1, h, v => by
    have ih := cells_set L k (by simpa using h) v
    have e : ∀ (y : Stepx.Node) R, cellsOf (y :: R) = .int .i64 y.1 :: .int .i64 y.2.1 :: .string y.2.2 :: cellsOf R := fun _ _ => rfl
    rw [show (k + 1) * 3 = k * 3 + 1 + 1 + 1 by omega]
    simp only [e, List.set_cons_succ, List.getElem_cons_succ]
    rw [ih]
theorem post_below {w w' : World} {rb : Nat} (h : Rd w rb) (hb : Below w.heap.size w w') : Post w rb w' :=
  ⟨h.kept fun k hk => hb.block k (Nat.lt_of_le_of_lt hk h.lt), ⟨hb.os, hb.tape, hb.output, hb.size, fun k hk _ => hb.block k hk⟩⟩
theorem post_set {w w' : World} {rb g i : Nat} {v : Value} (h : Post w rb w') (hg : w.heap.size ≤ g) (hr : rb < w.heap.size) : Post w rb (w'.setCell ⟨g, i, none⟩ v) :=
  ⟨h.1.kept fun k hk => Below.heap_setCell w' _ _ k (fun e => by have e : k = g := e; omega), ⟨h.2.os, h.2.tape, h.2.output, by have := h.2.size; simpa [World.setCell] using this, fun k hk hne => (Below.heap_setCell w' _ _ k (fun e => by have e : k = g := e; omega)).trans (h.2.block k hk hne)⟩⟩

/-- What a drawn expression is. -/
def EX (w : World) (rb : Nat) (e : Ending) (w' : World) : Prop := (∃ (a : Option Addr) (cap : Nat) (L : List Stepx.Node), e = .returned (.slice a L.length cap) ∧ Own w' w.heap.size (.slice a L.length cap) L ∧ L.length ≤ 30 ∧ ∀ x ∈ L, Nice x) ∧ Post w rb w'
theorem expr_ne {L : List Stepx.Node} (h : Stepx.exprB L = true) : 0 < L.length := by
  cases L with
  | nil => exact absurd h (by decide)
  | cons x L => exact Nat.succ_pos _
set_option maxHeartbeats 2000000 in
theorem expr_any (rb : Nat) (w : World) (h : Rd w rb) : Calls Try.prog 14 #[.pointer (some ⟨rb, 0, none⟩)] w (EX w rb) := by
  have H : Hid (Rd w rb) := h
  have hrl := h.lt
  clear h
  go_enter Try.func14, Try.ntmps14
  go_wp2_with fail
  refine (infix_any _ _ H.out).mono ?_
  rintro e w1 ⟨⟨s, hs, rfl⟩, hp1⟩
  have P1 : Hid (Post w rb w1) := hp1
  have h1 : rb < w1.heap.size := hp1.1.lt
  have hw1 : w.heap.size ≤ w1.heap.size := hp1.2.size
  clear hp1
  go_wp2_with fail
  refine (Cmpd.compiled_any s _ (Nat.le_trans hs.2 (by decide))).mono ?_
  rintro e w2 ⟨he, hb2⟩
  have P2 : Hid (Post w rb w2) := P1.out.trans (post_below P1.out.1 hb2)
  have hw2 : w1.heap.size ≤ w2.heap.size := hb2.size
  clear hb2
  rcases he with rfl | ⟨a, cap, L, rfl, ho, hl, hx, hg⟩
  · have OW : Hid (Own (w2.alloc (.cells #[.int .i64 1, .int .i64 5, .string ⟨#[]⟩] 37)) w.heap.size (.slice (some ⟨w2.heap.size, 0, none⟩) 1 1) [(1, 5, ⟨#[]⟩)]) := World.ownsRow_lit w2 #[.int .i64 1, .int .i64 5, .string ⟨#[]⟩] 1 (by omega) (by decide) rfl
    go_wp2_with fail
    go_ret
    exact ⟨⟨_, 1, [(1, 5, ⟨#[]⟩)], rfl, OW.out, by decide, fun x hx => by rw [List.mem_singleton.1 hx]; exact ⟨by decide, plain0⟩⟩, P2.out.alloc _⟩
  · have N : Hid (∀ x ∈ L, Nice x) := fun x hx => nice_of hs.1 (hg x hx)
    have hne := expr_ne hx
    clear hx hg
    rcases ho.2 with ⟨hv, h0⟩ | ⟨g, c, cur, hv, hgb, _⟩
    · omega
    · cases hv
      have O2 : Hid (Own w2 w.heap.size (.slice (some ⟨g, 0, none⟩) L.length cap) L) := Cmpd.own_low ho (by omega)
      have gn : g ≠ rb := by omega
      clear ho
      go_wp2_with fail
      refine (Rdr.once_any _ _ _ P2.out.1 (by decide) (by decide)).mono ?_
      rintro e w3 ⟨⟨b, rfl⟩, hp3⟩
      have P3 : Hid (Post w rb w3) := P2.out.trans hp3
      have O3 : Hid (Own w3 w.heap.size (.slice (some ⟨g, 0, none⟩) L.length cap) L) := O2.out.kept hp3.2 (.inr (fun e => gn (by simpa [Value.ownBlock] using e)))
      clear hp3 O2
      cases b with
      | false =>
        go_wp2_with fail
        go_ret
        exact ⟨⟨_, cap, L, rfl, O3.out, hl, N.out⟩, P3.out⟩
      | true =>
        go_wp2_with fail
        refine (Rdr.below_any _ _ _ P3.out.1 (by omega) (by omega)).mono ?_
        rintro e w4 ⟨⟨y, y0, y1, rfl⟩, hp4⟩
        have P4 : Hid (Post w rb w4) := P3.out.trans hp4
        have O4 : Hid (Own w4 w.heap.size (.slice (some ⟨g, 0, none⟩) L.length cap) L) := O3.out.kept hp4.2 (.inr (fun e => gn (by simpa [Value.ownBlock] using e)))
        clear hp4 O3
        go_wp2_with fail
        refine (Rdr.off_any _ _ _ _ P4.out.1 (by decide) (by decide) (by decide)).mono ?_
        rintro e w5 ⟨⟨v, hv, rfl⟩, hp5⟩
        have P5 : Hid (Post w rb w5) := P4.out.trans hp5
        have O5 := O4.out.kept hp5.2 (.inr (fun e => gn (by simpa [Value.ownBlock] using e)))
        obtain ⟨k, rfl⟩ := Int.eq_ofNat_of_zero_le y0
        have hk : k < L.length := by omega
        have hlen : (cellsOf L).length = L.length * 3 := Nodm.cells_len L
        have f0 : w5.frozen? ⟨g, k * 3, none⟩ = false := O5.frozenAt _
        obtain ⟨x0, c0⟩ : ∃ x, w5.cell? ⟨g, k * 3, none⟩ = some x := ⟨_, (O5.cellAt (k * 3) (by omega)).trans (List.getElem?_eq_getElem (by omega))⟩
        have h6 := (O5.stored (k * 3) (.int .i64 v)).1
        rw [cells_set L k hk v] at h6
        have eL : (L.set k (v, L[k].2)).length = L.length := List.length_set ..
        have O6 : Hid (Own (w5.setCell ⟨g, k * 3, none⟩ (.int .i64 v)) w.heap.size (.slice (some ⟨g, 0, none⟩) L.length cap) (L.set k (v, L[k].2))) := by show World.ownsRow _ _ _ _ _ _ _; rw [eL]; exact h6
        have N6 : Hid (∀ x ∈ L.set k (v, L[k].2), Nice x) := fun x hx => by
          rcases List.mem_or_eq_of_mem_set hx with h | h
          · exact N.out x h
          · rw [h]; exact N.out L[k] (List.getElem_mem hk)
        have P6 : Hid (Post w rb (w5.setCell ⟨g, k * 3, none⟩ (.int .i64 v))) := post_set P5.out (by omega) hrl
        have EL : Hid ((L.set k (v, L[k].2)).length = L.length) := eL
        have k1 : (k : Int) < (L.length : Int) := by omega
        clear hp5 O5 h6 O4 eL y0 y1 N hlen P5 P4
        generalize L.set k (v, L[k].2) = L' at *
        go_wp2_with fail
        go_ret
        refine ⟨⟨_, cap, L', ?_, by rw [EL.out]; exact O6.out, by rw [EL.out]; exact hl, N6.out⟩, P6.out⟩
        rw [EL.out]; rfl

/-- A draw's expression. -/
def DX (w : World) (e : Ending) (w' : World) : Prop := (∃ (a : Option Addr) (cap : Nat) (L : List Stepx.Node), e = .returned (.slice a L.length cap) ∧ Own w' w.heap.size (.slice a L.length cap) L ∧ L.length ≤ 30 ∧ ∀ x ∈ L, Nice x) ∧ Below w.heap.size w w'
set_option maxHeartbeats 400000 in
theorem drawExprOk_any (a : Option Addr) (len cap : Nat) (zs : List Int) (w : World) (h : Rdr.IsRow .u8 w a len cap zs) : Calls Try.prog 23 #[.slice a len cap] w (DX w) := by
  have ho := Rdr.open_any a len cap zs w h
  clear h
  go_enter Try.func23, Try.ntmps23
  go_wp2_with fail
  refine ho.mono ?_
  rintro e w1 ⟨rfl, hr, hb⟩
  have R : Hid (Rd w1 w.heap.size ∧ Below w.heap.size w w1) := ⟨hr, hb⟩
  clear hr hb
  go_wp2_with fail
  refine (expr_any _ _ R.out.1).mono ?_
  rintro e w2 ⟨⟨a2, cap2, L, rfl, ho2, hl, hn⟩, hp⟩
  have O2 : Hid (Own w2 w.heap.size (.slice a2 L.length cap2) L ∧ Below w.heap.size w w2) := ⟨Cmpd.own_low ho2 R.out.2.size, R.out.2.trans (hp.below (Nat.le_refl _) R.out.2.size)⟩
  have N : Hid (∀ x ∈ L, Nice x) := hn
  clear ho2 hp hn
  go_wp2_with fail
  go_ret
  exact ⟨⟨a2, cap2, L, rfl, O2.out.1, hl, N.out⟩, O2.out.2⟩
theorem drawNamesIn_any (a : Option Addr) (len cap : Nat) (zs : List Int) (w : World) (h : Rdr.IsRow .u8 w a len cap zs) : Calls Try.prog 10 #[.slice a len cap] w (DX w) := by
  have ho := drawExprOk_any a len cap zs w h
  clear h
  go_enter Try.func10, Try.ntmps10
  go_wp2_with fail
  refine ho.mono ?_
  rintro e w2 ⟨⟨a2, cap2, L, rfl, ho2, hl, hn⟩, hb⟩
  have O2 : Hid (Own w2 w.heap.size (.slice a2 L.length cap2) L ∧ Below w.heap.size w w2) := ⟨ho2, hb⟩
  have N : Hid (∀ x ∈ L, Nice x) := hn
  clear ho2 hb hn
  go_wp2_with fail
  go_ret
  exact ⟨⟨a2, cap2, L, rfl, O2.out.1, hl, N.out⟩, O2.out.2⟩
end Go.Proofs.Ytfgabgihdcokdaa.Cmpf
