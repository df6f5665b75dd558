/-
  What the reader's syms can draw.
-/
import Derived.Test.YtfgabgihdcokdaaSymr
import Derived.Test.YtfgabgihdcokdaaDraw
import Derived.Deep.RegionLaw
import Derived.Laws.OwnMore
import Derived.Maps.AppendAt
namespace Go.Proofs.Ytfgabgihdcokdaa.DrawS
open Go.ChangeShapes Go.WideShapes Go.ChangeAt Go.RowKit Go.Deep
open Rdr (Rd Post)
open Symr (Sym Syms)
set_option linter.unusedVariables false
set_option maxRecDepth 20000
def cellsOf (L : List Sym) : List Value := L.flatMap fun x => [.string x.1, .int .i64 x.2.1, .int .i64 x.2.2]
theorem cells_len (L : List Sym) : (cellsOf L).length = L.length * 3 := by
  unfold cellsOf
  induction L with
  | nil => rfl
  | cons x L ih => rw [List.flatMap_cons, List.length_append, ih, List.length_cons]; simp; omega
theorem cells_snoc (L : List Sym) (x : Sym) : cellsOf (L ++ [x]) = cellsOf L ++ [.string x.1, .int .i64 x.2.1, .int .i64 x.2.2] := by
  unfold cellsOf; rw [List.flatMap_append]; rfl
theorem cells_at : ∀ (L : List Sym) (i : Nat) (h : i < L.length), (cellsOf L)[i * 3]? = some (.string L[i].1) ∧ (cellsOf L)[i * 3 + 1]? = some (.int .i64 L[i].2.1) ∧ (cellsOf L)[i * 3 + 2]? = some (.int .i64 L[i].2.2)
  | [], i, h => absurd h (Nat.not_lt_zero _)
  | x :: L, 0, _ => ⟨rfl, rfl, rfl⟩
  | x :: L, i + 1, h => by
    have ih := cells_at L i (by simpa using h)
    have e : cellsOf (x :: L) = .string x.1 :: .int .i64 x.2.1 :: .int .i64 x.2.2 :: cellsOf L := rfl
    rw [e, show (i + 1) * 3 = i * 3 + 1 + 1 + 1 by omega]
    simp only [List.getElem?_cons_succ, List.getElem_cons_succ]
    exact ih
abbrev Own (w : World) (base : Nat) (v : Value) (L : List Sym) : Prop := w.ownsRow base 33 3 v L.length (cellsOf L)
theorem syms_own {w : World} {base : Nat} {a : Option Addr} {n cap : Nat} {L : List Sym} (h : Own w base (.slice a n cap) L) (hz : ∀ x ∈ L, x.1.size ≤ 1048576) : Syms w a L := by
  rcases h.2 with ⟨hv, h0⟩ | ⟨g, c, cur, hv, hb, hg, hn, hm, hs, ht⟩
  · exact .inl (List.length_eq_zero_iff.1 h0)
  · cases hv
    have hl := (h.lt g rfl).2
    refine .inr ⟨g, 0, rfl, hl, fun i hi => ?_⟩
    have hc := h.cellAt
    obtain ⟨a1, a2, a3⟩ := cells_at L i hi
    rw [Nat.zero_add]
    refine ⟨(hc (i * 3) (by omega)).trans a1, (hc (i * 3 + 1) (by omega)).trans a2, (hc (i * 3 + 2) (by omega)).trans a3, ?_⟩
    have := hz L[i] (List.getElem_mem hi)
    unfold maxLen; omega
theorem own_ne {w : World} {base : Nat} {v : Value} {n : Nat} {xs : List Value} (h : w.ownsRow base 33 3 v n xs) {nb : Nat} {C : Array Value} {fz : Nat × Nat} (hn : w.heap[nb]? = some (.cells C 9 fz)) : v.ownBlock ≠ some nb := by
  intro e
  rcases h.2 with ⟨rfl, _⟩ | ⟨g, cap, cur, rfl, _, hg, _⟩
  · cases e
  · cases e
    rw [hn] at hg
    cases hg
theorem step_append_own {P : Program} {ops : Array Oper} {o : Oper} {a : Act} {w : World} {K : Act → World → Prop} {Q : Exit → Act → World → Prop} {E : Prop} (hg : o.guard = none) (s x : Operand) (t : TypeId)
    (ho : o.op = .call { callee := .builtin .append, args := #[s, x], argTypes := #[t, t] })
    (base : Nat) (e : TypeId) (i : TypeInfo) (z : Value) (size bytes : Nat) (ht : P.underlying t = some (.slice e)) (hi : P.info? e = some i) (hz : i.zero = some z)
    (hsize : i.size = size) (hby : i.bytes = bytes) (hzs : z.cells.size = size) (hsz : 0 < size)
    (v : Value) (n : Nat) (xs : List Value) (hs : a.eval s = v) (hown : w.ownsRow base e size v n xs)
    (ad : Addr) (m c : Nat) (news : List Value) (hx : a.eval x = .slice (some ad) m c) (hl : news.length = m * size) (hnews : ∀ j u, news[j]? = some u → w.cell? (ad.add j) = some u) (h1 : ∀ u ∈ news, u.oneCell' = true)
    (h63 : n + m ≤ maxLen) (hbytes : (n + m) * bytes ≤ 140737488355328) (hbase : base ≤ w.heap.size)
    (h : ∀ v' w', w'.ownsRow base e size v' (n + m) (xs ++ news) → w.grownBy w' v.ownBlock → (v' = .slice none 0 0 ↔ v = .slice none 0 0 ∧ m = 0) → K (a.put o.dst v') w') :
    if Region.wanted o (yielded ops a.tmps) = true then Oper.wp P o a w K Q else E := by
  have hw : Region.wanted o (yielded ops a.tmps) = true := by simp [Region.wanted, hg]
  rw [if_pos hw]
  exact wp_append_own w s x t ho base e i z size bytes ht hi hz hsize hby hzs hsz v n xs hs hown ad m c news hx hl hnews h1 h63 hbytes hbase h
def three : Array Value := #[.string ⟨#[97, 49]⟩, .string ⟨#[108, 111, 111, 112]⟩, .string ⟨#[120, 46, 121]⟩, .string ⟨#[101, 110, 100, 95]⟩]
/-- While it is drawn: the reader, what was there, the names, the row. -/
def St (w1 : World) (rb nb : Nat) (W : World) (v : Value) (L : List Sym) : Prop :=
  Rd W rb ∧ w1.grownBy W (some rb) ∧ rb < w1.heap.size ∧ rb < nb ∧ W.heap[nb]? = some (.cells three 9 (0, 0)) ∧ Own W w1.heap.size v L
theorem St.lt {w1 : World} {rb nb : Nat} {W : World} {v : Value} {L : List Sym} (h : St w1 rb nb W v L) : nb < W.heap.size := (Array.getElem?_eq_some_iff.1 h.2.2.2.2.1).1
theorem St.post {w1 : World} {rb nb : Nat} {W W' : World} {v : Value} {L : List Sym} (h : St w1 rb nb W v L) (hp : Post W rb W') : St w1 rb nb W' v L := by
  have hl := h.lt
  obtain ⟨h1, h2, h3, h4, h5, h6⟩ := h
  refine ⟨hp.1, h2.trans hp.2, h3, h4, (hp.2.block nb hl (fun e => by cases e; omega)).trans h5, h6.kept hp.2 ?_⟩
  cases hv : v.ownBlock with
  | none => exact .inl rfl
  | some g => exact .inr fun e => by cases e; have := (h6.lt _ hv).1; omega
theorem St.drew {w1 : World} {rb nb : Nat} {W : World} {v : Value} {L : List Sym} (h : St w1 rb nb W v L) : St w1 rb nb W.drew v L := h.post (Post.of h.1 rfl rfl rfl rfl)
theorem St.alloc {w1 : World} {rb nb : Nat} {W : World} {v : Value} {L : List Sym} (h : St w1 rb nb W v L) (o : Obj) : St w1 rb nb (W.alloc o) v L := h.post ((Post.refl h.1).alloc o)
theorem St.more {w1 : World} {rb nb : Nat} {W W' : World} {v v' : Value} {L L' : List Sym} (h : St w1 rb nb W v L) (ho : Own W' w1.heap.size v' L') (hg : W.grownBy W' v.ownBlock) : St w1 rb nb W' v' L' := by
  have hl := h.lt
  obtain ⟨h1, h2, h3, h4, h5, h6⟩ := h
  have hr := h1.lt
  have hz := h2.size
  refine ⟨h1.kept fun k hk => hg.block k (by omega) fun e => ?_, ⟨hg.os.trans h2.os, hg.tape.trans h2.tape, hg.output.trans h2.output, Nat.le_trans h2.size hg.size, fun k hk hne => (hg.block k (by omega) fun e => ?_).trans (h2.block k hk hne)⟩, h3, h4, (hg.block nb hl fun e => own_ne h6 h5 e.symm).trans h5, ho⟩
  · have := (h6.lt k e.symm).1; omega
  · have := (h6.lt k e.symm).1; omega
theorem three_at (k : Nat) (h : k < 4) : ∃ t : ByteArray, t.size ≤ 16 ∧ three[k]? = some (.string t) := by
  match k, h with
  | 0, _ => exact ⟨_, by decide, rfl⟩
  | 1, _ => exact ⟨_, by decide, rfl⟩
  | 2, _ => exact ⟨_, by decide, rfl⟩
  | 3, _ => exact ⟨_, by decide, rfl⟩
theorem St.row {w1 : World} {rb nb : Nat} {W : World} {v : Value} {L : List Sym} {len : Nat} (h : St w1 rb nb W v L) (hl : L.length = len) : W.ownsRow w1.heap.size 33 3 v len (cellsOf L) := by
  rw [← hl]; exact h.2.2.2.2.2
theorem new3 (w : World) (a b c : Value) (t : TypeId) : ∀ j u, [a, b, c][j]? = some u → (w.alloc (.cells #[a, b, c] t)).cell? ((⟨w.heap.size, 0, none⟩ : Addr).add j) = some u := by
  intro j u hj
  match j, hj with
  | 0, hj => simp at hj; subst hj; show World.cell? _ ⟨w.heap.size, 0, none⟩ = _; rw [World.cell?_alloc_new]; rfl
  | 1, hj => simp at hj; subst hj; show World.cell? _ ⟨w.heap.size, 1, none⟩ = _; rw [World.cell?_alloc_new]; rfl
  | 2, hj => simp at hj; subst hj; show World.cell? _ ⟨w.heap.size, 2, none⟩ = _; rw [World.cell?_alloc_new]; rfl
theorem one3 (s : ByteArray) (x y : Int) : ∀ u ∈ [Value.string s, .int .i64 x, .int .i64 y], u.oneCell' = true := by
  intro u hu; simp at hu; rcases hu with rfl | rfl | rfl <;> rfl
theorem St.sized {w1 : World} {rb nb : Nat} {W : World} {v : Value} {L : List Sym} (h : St w1 rb nb W v L) : w1.heap.size ≤ W.heap.size := h.2.1.size
theorem slice_of {w : World} {base e size n : Nat} {v : Value} {xs : List Value} (h : w.ownsRow base e size v (n + 1) xs) : ∃ g c, v = .slice (some ⟨g, 0, none⟩) (n + 1) c := by
  rcases h.2 with ⟨_, h⟩ | ⟨g, c, cur, hv, _⟩
  · omega
  · exact ⟨_, _, hv⟩
theorem sub_wrap {y : Int} (h0 : 0 ≤ y) (h1 : y < 600) : IntKind.i64.wrap (y - 20) = y - 20 := by rw [IntKind.wrap_i64]; omega
set_option maxHeartbeats 2000000 in
theorem syms_any (rb : Nat) (w1 : World) (h : Rd w1 rb) :
    Calls Try.prog 15 #[.pointer (some ⟨rb, 0, none⟩)] w1 fun e w' => (∃ (L : List Sym) (g c : Nat), e = .returned (.slice (some ⟨g, 0, none⟩) L.length c) ∧ L.length ≤ 4 ∧ Own w' w1.heap.size (.slice (some ⟨g, 0, none⟩) L.length c) L ∧ (∀ x ∈ L, x.1.size ≤ 1048576)) ∧ Post w1 rb w' := by
  obtain ⟨i0, hi, hz0, hz1, hz2⟩ := info_parts Symr.infoY
  have R1 : Hid (Rd w1 rb) := h
  have hrl := h.lt
  clear h
  go_enter Try.func15, Try.ntmps15
  go_wp2_with fail
  have S0 : Hid (St w1 rb (w1.heap.size + 1) ((w1.alloc (.cells #[] 33)).alloc (.cells #[.string ⟨#[97, 49]⟩, .string ⟨#[108, 111, 111, 112]⟩, .string ⟨#[120, 46, 121]⟩, .string ⟨#[101, 110, 100, 95]⟩] 9)) (.slice (some ⟨w1.heap.size, 0, none⟩) 0 0) []) := by
    have hp := ((Post.refl R1.out).alloc (.cells #[] 33)).alloc (.cells three 9)
    refine ⟨hp.1, hp.2, hrl, by omega, ?_, ((World.ownsRow_lit w1 #[] 0 (Nat.le_refl _) (Nat.zero_le _) rfl : Own (w1.alloc (.cells #[] 33)) w1.heap.size (.slice (some ⟨w1.heap.size, 0, none⟩) 0 0) []).alloc _)⟩
    have := (MapKept.heap_alloc (w1.alloc (.cells #[] 33)) (.cells three 9)).1
    rwa [World.size_alloc] at this
  generalize (w1.alloc (.cells #[] 33)).alloc (.cells #[.string ⟨#[97, 49]⟩, .string ⟨#[108, 111, 111, 112]⟩, .string ⟨#[120, 46, 121]⟩, .string ⟨#[101, 110, 100, 95]⟩] 9) = W0 at S0 ⊢
  obtain ⟨nb, hnb⟩ : ∃ nb, nb = w1.heap.size + 1 := ⟨_, rfl⟩
  rw [← hnb] at S0 ⊢
  clear hnb R1
  go_loopw [3, 5] (fun x i wr => ∃ (k : Nat) (L : List Sym) (ao c : Nat), k ≤ 4 ∧ L.length ≤ k ∧ i = .int .i64 k ∧ x = .slice (some ⟨ao, 0, none⟩) L.length c ∧ Hid (St w1 rb nb wr (.slice (some ⟨ao, 0, none⟩) L.length c) L) ∧ Hid (∀ x ∈ L, x.1.size ≤ 1048576)) (fun _ i _ => 4 - (intOf i).toNat)
  case atStart => exact ⟨0, [], _, 0, Nat.zero_le _, Nat.zero_le _, rfl, rfl, S0.out, fun x hx => by cases hx⟩
  case round =>
    clear S0
    obtain ⟨k, L, ao, c, hk, hL, rfl, rfl, hst, hsm⟩ := hrel
    by_cases hlt : k < 4
    · go_wp2_with fail
      refine (Rdr.once_any _ _ _ hst.out.1 (by decide) (by decide)).mono ?_
      rintro e w2 ⟨⟨x, rfl⟩, hp2⟩
      have S2 : Hid (St w1 rb nb w2 (.slice (some ⟨ao, 0, none⟩) L.length c) L) := hst.out.post hp2
      clear hp2 hst
      cases x with
      | true =>
        go_wp2_with fail
        go_roundw
        case rel => exact ⟨k + 1, L, ao, c, by omega, by omega, by go_num, rfl, S2.out, hsm.out⟩
        case measure => simp [intOf]; omega
      | false =>
        obtain ⟨nm, hnm, ht⟩ := three_at k hlt
        have HN : Hid (∀ W v L, St w1 rb nb W v L → W.cell? ⟨nb, k, none⟩ = some (.string nm)) := fun W v L h => by
          rw [Lib.cell_of_heap h.2.2.2.2.1]; exact ht
        have c2 := HN.out _ _ _ S2.out
        obtain ⟨len, hlen⟩ : ∃ len, L.length = len := ⟨_, rfl⟩
        have HL : Hid (L.length = len) := hlen
        rw [hlen] at S2 hL ⊢
        clear hlen ht
        go_wp2_with fail
        go_region_law (first
          | (refine step_append_own rfl (.tmp 17) (.tmp 28) 25 rfl w1.heap.size 33 i0 (.agg #[.string ⟨#[]⟩, .int .i64 0, .int .i64 0]) 3 32 Try.underlying25 hi hz0 hz1 hz2 rfl (by decide) (.slice (some ⟨ao, 0, none⟩) len c) len (cellsOf L) rfl ((S4.out.alloc _).row HL.out) ⟨w4.heap.size, 0, none⟩ 1 1 [.string nm, .int .i64 y1, .int .i64 (y2 - 20)] rfl rfl (new3 _ _ _ _ _) (one3 _ _ _) (by unfold maxLen; omega) (by omega) (by have := S4.out.sized; simp; omega) ?_; intro v5 w5 o5 g5 _; have S5 : Hid (St w1 rb nb w5 v5 (L ++ [(nm, y1, y2 - 20)])) := (S4.out.alloc _).more (by show World.ownsRow _ _ _ _ _ _ _; rw [cells_snoc, List.length_append, HL.out]; exact o5) g5; obtain ⟨ao5, cap5, rfl⟩ := slice_of o5; clear o5 g5)
          | (go_simp; go_at_call_of 29 (Value.int .i64 4); refine (Rdr.below_any _ _ _ S2.out.drew.1 (by decide) (by decide)).mono ?_; rintro e w3 ⟨⟨y1, y10, y11, rfl⟩, hp3⟩; have S3 : Hid (St w1 rb nb w3 (.slice (some ⟨ao, 0, none⟩) len c) L) := S2.out.drew.post hp3; have c3 := HN.out _ _ _ S3.out; clear hp3)
          | (go_simp; go_at_call_of 29 (Value.int .i64 600); refine (Rdr.below_any _ _ _ S3.out.1 (by decide) (by decide)).mono ?_; rintro e w4 ⟨⟨y2, y20, y21, rfl⟩, hp4⟩; have S4 : Hid (St w1 rb nb w4 (.slice (some ⟨ao, 0, none⟩) len c) L) := S3.out.post hp4; have c4 := HN.out _ _ _ S4.out; have y2w := sub_wrap y20 y21; clear hp4)
          | fail)
        all_goals
          go_simp
          go_wp2_with fail
          have E5 : (L ++ [(nm, y1, y2 - 20)]).length = len + 1 := by rw [List.length_append, HL.out]; rfl
          go_roundw
          case rel => exact ⟨k + 1, L ++ [(nm, y1, y2 - 20)], ao5, cap5, by omega, by omega, by go_num, by rw [E5], by rw [E5]; exact S5.out, fun x hx => (List.mem_append.1 hx).elim (hsm.out x) fun hx => by rw [List.mem_singleton.1 hx]; show nm.size ≤ _; omega⟩
          case measure => simp [intOf]; omega
    · obtain ⟨len, hlen⟩ : ∃ len, L.length = len := ⟨_, rfl⟩
      have HL : Hid (L.length = len) := hlen
      rw [hlen] at hst hL ⊢
      clear hlen
      go_wp2_with fail
      go_ret
      refine ⟨⟨L, ao, c, by rw [HL.out]; rfl, by rw [HL.out]; omega, by rw [HL.out]; exact hst.out.2.2.2.2.2, hsm.out⟩, ⟨hst.out.1, hst.out.2.1⟩⟩
end Go.Proofs.Ytfgabgihdcokdaa.DrawS
