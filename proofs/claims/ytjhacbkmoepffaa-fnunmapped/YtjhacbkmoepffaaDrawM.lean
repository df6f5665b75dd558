/-
  What can be drawn of chapter 16: (*l1Rd).pairs, spec.DrawMapped.
-/
import Derived.Test.YtjhacbkmoepffaaChok
import Derived.Test.YtjhacbkmoepffaaDraw
import Derived.Deep.RegionLaw
import Derived.Laws.OwnMore
import Derived.Maps.AppendAt
namespace Go.Proofs.Ytjhacbkmoepffaa.DrawM
open Go.ChangeShapes Go.WideShapes Go.ChangeAt Go.RowKit Go.Deep
open Rdr (Rd Post)
open Pairr (Pair Pairs)
set_option linter.unusedVariables false
set_option linter.unusedSimpArgs false
set_option maxRecDepth 20000
abbrev tP : TypeId := 38
def cellsOf (L : List Pair) : List Value := L.flatMap fun x => [.string x.1, .int .i64 x.2]
theorem cells_snoc (L : List Pair) (x : Pair) : cellsOf (L ++ [x]) = cellsOf L ++ [.string x.1, .int .i64 x.2] := by
  unfold cellsOf; rw [List.flatMap_append]; rfl
theorem cells_at : ∀ (L : List Pair) (i : Nat) (h : i < L.length), (cellsOf L)[i * 2]? = some (.string L[i].1) ∧ (cellsOf L)[i * 2 + 1]? = some (.int .i64 L[i].2)
  | [], i, h => absurd h (Nat.not_lt_zero _)
  | x :: L, 0, _ => ⟨rfl, rfl⟩
  | x :: L, i + 1, h => by
    have ih := cells_at L i (by simpa using h)
    have e : cellsOf (x :: L) = .string x.1 :: .int .i64 x.2 :: cellsOf L := rfl
    rw [e, show (i + 1) * 2 = i * 2 + 1 + 1 by omega]
    simp only [List.getElem?_cons_succ, List.getElem_cons_succ]
    exact ih
abbrev Own (w : World) (base : Nat) (v : Value) (L : List Pair) : Prop := w.ownsRow base tP 2 v L.length (cellsOf L)
theorem pairs_own {w : World} {base : Nat} {a : Option Addr} {n cap : Nat} {L : List Pair} (h : Own w base (.slice a n cap) L) (hz : ∀ x ∈ L, x.1.size ≤ 16) : Pairs w a L := by
  rcases h.2 with ⟨hv, h0⟩ | ⟨g, c, cur, hv, hb, hg, hn, hm, hs, ht⟩
  · exact .inl (List.length_eq_zero_iff.1 h0)
  · cases hv
    have hl := (h.lt g rfl).2
    refine .inr ⟨g, 0, rfl, hl, fun i hi => ?_⟩
    have hc := h.cellAt
    obtain ⟨a1, a2⟩ := cells_at L i hi
    rw [Nat.zero_add]
    refine ⟨(hc (i * 2) (by omega)).trans a1, (hc (i * 2 + 1) (by omega)).trans a2, ?_⟩
    have := hz L[i] (List.getElem_mem hi)
    unfold maxLen; omega
theorem own_ne {w : World} {base : Nat} {v : Value} {n : Nat} {xs : List Value} (h : w.ownsRow base tP 2 v n xs) {nb : Nat} {C : Array Value} {fz : Nat × Nat} (hn : w.heap[nb]? = some (.cells C 9 fz)) : v.ownBlock ≠ some nb := by
  intro e
  rcases h.2 with ⟨rfl, _⟩ | ⟨g, cap, cur, rfl, _, hg, _⟩
  · cases e
  · cases e
    rw [hn] at hg
    cases hg
theorem step_append_own {P : Program} {ops : Array Oper} {o : Oper} {a : Act} {w : World} {K : Act → World → Prop} {Q : Exit → Act → World → Prop} {E : Prop} (hg : o.guard = none) (s x : Operand) (t : TypeId)
    (ho : o.op = .call { callee := .builtin .append, args := #[s, x], argTypes := #[t, t] })
    (base : Nat) (e : TypeId) (i : TypeInfo) (z : Value) (size bytes : Nat) (ht : P.underlying t = some (.slice e)) (hi : P.info? e = some i) (hz : i.zero = some z)
    (hsize : i.size = size) (hby : i.bytes = bytes) (hzs : z.cells.size = size) (hsz : 0 < size)
    (v : Value) (n : Nat) (xs : List Value) (hs : a.eval s = v) (hown : w.ownsRow base e size v n xs)
    (ad : Addr) (m c : Nat) (news : List Value) (hx : a.eval x = .slice (some ad) m c) (hl : news.length = m * size) (hnews : ∀ j u, news[j]? = some u → w.cell? (ad.add j) = some u) (h1 : ∀ u ∈ news, u.oneCell' = true)
    (h63 : n + m ≤ maxLen) (hbytes : (n + m) * bytes ≤ 140737488355328) (hbase : base ≤ w.heap.size)
    (h : ∀ v' w', w'.ownsRow base e size v' (n + m) (xs ++ news) → w.grownBy w' v.ownBlock → (v' = .slice none 0 0 ↔ v = .slice none 0 0 ∧ m = 0) → K (a.put o.dst v') w') :
    if Region.wanted o (yielded ops a.tmps) = true then Oper.wp P o a w K Q else E := by
  have hw : Region.wanted o (yielded ops a.tmps) = true := by simp [Region.wanted, hg]
  rw [if_pos hw]
  exact wp_append_own w s x t ho base e i z size bytes ht hi hz hsize hby hzs hsz v n xs hs hown ad m c news hx hl hnews h1 h63 hbytes hbase h
def six : Array Value := #[.string ⟨#[97]⟩, .string ⟨#[97, 98]⟩, .string ⟨#[97, 98, 99]⟩, .string ⟨#[98]⟩, .string ⟨#[99]⟩, .string ⟨#[120]⟩]
theorem six_at (k : Nat) (h : k < 6) : ∃ t : ByteArray, t.size ≤ 16 ∧ six[k]? = some (.string t) := by
  match k, h with
  | 0, _ => exact ⟨_, by decide, rfl⟩
  | 1, _ => exact ⟨_, by decide, rfl⟩
  | 2, _ => exact ⟨_, by decide, rfl⟩
  | 3, _ => exact ⟨_, by decide, rfl⟩
  | 4, _ => exact ⟨_, by decide, rfl⟩
  | 5, _ => exact ⟨_, by decide, rfl⟩
/-- While it is drawn: the reader, what was there, the texts, the row. -/
def St (w1 : World) (rb nb : Nat) (W : World) (v : Value) (L : List Pair) : Prop :=
  Rd W rb ∧ w1.grownBy W (some rb) ∧ rb < w1.heap.size ∧ rb < nb ∧ W.heap[nb]? = some (.cells six 9 (0, 0)) ∧ Own W w1.heap.size v L
theorem St.lt {w1 : World} {rb nb : Nat} {W : World} {v : Value} {L : List Pair} (h : St w1 rb nb W v L) : nb < W.heap.size := (Array.getElem?_eq_some_iff.1 h.2.2.2.2.1).1
theorem St.post {w1 : World} {rb nb : Nat} {W W' : World} {v : Value} {L : List Pair} (h : St w1 rb nb W v L) (hp : Post W rb W') : St w1 rb nb W' v L := by
  have hl := h.lt
  obtain ⟨h1, h2, h3, h4, h5, h6⟩ := h
  refine ⟨hp.1, h2.trans hp.2, h3, h4, (hp.2.block nb hl (fun e => by cases e; omega)).trans h5, h6.kept hp.2 ?_⟩
  cases hv : v.ownBlock with
  | none => exact .inl rfl
  | some g => exact .inr fun e => by cases e; have := (h6.lt _ hv).1; omega
theorem St.drew {w1 : World} {rb nb : Nat} {W : World} {v : Value} {L : List Pair} (h : St w1 rb nb W v L) : St w1 rb nb W.drew v L := h.post (Post.of h.1 rfl rfl rfl rfl)
theorem St.alloc {w1 : World} {rb nb : Nat} {W : World} {v : Value} {L : List Pair} (h : St w1 rb nb W v L) (o : Obj) : St w1 rb nb (W.alloc o) v L := h.post ((Post.refl h.1).alloc o)
theorem St.more {w1 : World} {rb nb : Nat} {W W' : World} {v v' : Value} {L L' : List Pair} (h : St w1 rb nb W v L) (ho : Own W' w1.heap.size v' L') (hg : W.grownBy W' v.ownBlock) : St w1 rb nb W' v' L' := by
  have hl := h.lt
  obtain ⟨h1, h2, h3, h4, h5, h6⟩ := h
  have hr := h1.lt
  have hz := h2.size
  refine ⟨h1.kept fun k hk => hg.block k (by omega) fun e => ?_, ⟨hg.os.trans h2.os, hg.tape.trans h2.tape, hg.output.trans h2.output, Nat.le_trans h2.size hg.size, fun k hk hne => (hg.block k (by omega) fun e => ?_).trans (h2.block k hk hne)⟩, h3, h4, (hg.block nb hl fun e => own_ne h6 h5 e.symm).trans h5, ho⟩
  · have := (h6.lt k e.symm).1; omega
  · have := (h6.lt k e.symm).1; omega
theorem St.row {w1 : World} {rb nb : Nat} {W : World} {v : Value} {L : List Pair} {len : Nat} (h : St w1 rb nb W v L) (hl : L.length = len) : W.ownsRow w1.heap.size tP 2 v len (cellsOf L) := by
  rw [← hl]; exact h.2.2.2.2.2
theorem St.sized {w1 : World} {rb nb : Nat} {W : World} {v : Value} {L : List Pair} (h : St w1 rb nb W v L) : w1.heap.size ≤ W.heap.size := h.2.1.size
theorem new2 (w : World) (a b : Value) (t : TypeId) : ∀ j u, [a, b][j]? = some u → (w.alloc (.cells #[a, b] t)).cell? ((⟨w.heap.size, 0, none⟩ : Addr).add j) = some u := by
  intro j u hj
  match j, hj with
  | 0, hj => simp at hj; subst hj; show World.cell? _ ⟨w.heap.size, 0, none⟩ = _; rw [World.cell?_alloc_new]; rfl
  | 1, hj => simp at hj; subst hj; show World.cell? _ ⟨w.heap.size, 1, none⟩ = _; rw [World.cell?_alloc_new]; rfl
theorem one2 (s : ByteArray) (x : Int) : ∀ u ∈ [Value.string s, .int .i64 x], u.oneCell' = true := by
  intro u hu; simp at hu; rcases hu with rfl | rfl <;> rfl
theorem slice_of {w : World} {base e size n : Nat} {v : Value} {xs : List Value} (h : w.ownsRow base e size v (n + 1) xs) : ∃ ao c, v = .slice ao (n + 1) c := by
  rcases h.2 with ⟨_, h⟩ | ⟨g, c, cur, hv, _⟩
  · omega
  · exact ⟨_, _, hv⟩
theorem info_parts {P : Program} {t : TypeId} {z : Value} {s b : Nat} (h : (P.info? t).map (fun i => (i.zero, i.size, i.bytes)) = some (some z, s, b)) : ∃ i, P.info? t = some i ∧ i.zero = some z ∧ i.size = s ∧ i.bytes = b := by
  cases e : P.info? t with
  | none => rw [e] at h; cases h
  | some i =>
    rw [e] at h
    simp only [Option.map_some, Option.some.injEq, Prod.mk.injEq] at h
    exact ⟨i, rfl, h.1, h.2.1, h.2.2⟩
theorem cells_set (x : Pair) (L : List Pair) (y : Int) : (cellsOf (x :: L)).set 1 (.int .i64 y) = cellsOf ((x.1, y) :: L) := rfl
theorem St.put {w1 : World} {rb nb : Nat} {W : World} {g n c : Nat} {x : Pair} {L : List Pair} (h : St w1 rb nb W (.slice (some ⟨g, 0, none⟩) n c) (x :: L)) (hn : (x :: L).length = n) (y : Int) : St w1 rb nb (W.setCell ⟨g, 1, none⟩ (.int .i64 y)) (.slice (some ⟨g, 0, none⟩) n c) ((x.1, y) :: L) := by
  subst hn
  obtain ⟨k1, k2⟩ := h.2.2.2.2.2.stored 1 (.int .i64 y)
  rw [cells_set] at k1
  exact h.more k1 k2
set_option maxHeartbeats 2000000 in
theorem pairs_any (rb : Nat) (w : World) (h : Rd w rb) :
    Calls Try.prog 22 #[.pointer (some ⟨rb, 0, none⟩)] w fun e w' => (∃ (L : List Pair) (ao : Option Addr) (c : Nat), e = .returned (.slice ao L.length c) ∧ L.length ≤ 6 ∧ Pairs w' ao L ∧ ∀ p, ao = some p → rb < p.block) ∧ Post w rb w' := by
  obtain ⟨i0, hi, hz0, hz1, hz2⟩ := info_parts Pairr.infoY
  have hrl := h.lt
  have S0 : Hid (St w rb w.heap.size ((w.alloc (.cells #[.string ⟨#[97]⟩, .string ⟨#[97, 98]⟩, .string ⟨#[97, 98, 99]⟩, .string ⟨#[98]⟩, .string ⟨#[99]⟩, .string ⟨#[120]⟩] 9)).alloc (.cells #[] tP)) (.slice (some ⟨w.heap.size + 1, 0, none⟩) 0 0) []) := by
    have hp := ((Post.refl h).alloc (.cells six 9)).alloc (.cells #[] tP)
    have ho : Own ((w.alloc (.cells six 9)).alloc (.cells #[] tP)) w.heap.size (.slice (some ⟨w.heap.size + 1, 0, none⟩) 0 0) [] := by
      have := World.ownsRow_lit (base := w.heap.size) (e := tP) (size := 2) (w.alloc (.cells six 9)) #[] 0 (by simp) (Nat.zero_le _) rfl
      rw [World.size_alloc] at this
      exact this
    refine ⟨hp.1, hp.2, hrl, hrl, ?_, ho⟩
    have h1 := (MapKept.heap_alloc w (.cells six 9)).1
    exact ((World.grownBy_alloc (w.alloc (.cells six 9)) (.cells #[] tP) none).block w.heap.size (by simp) (by simp)).trans h1
  clear h
  go_enter Try.func22, Try.ntmps22
  go_wp2_with fail
  go_loopw [4, 5] (fun x i wr => ∃ (k : Nat) (L : List Pair) (ao : Option Addr) (c : Nat), k ≤ 6 ∧ L.length ≤ k ∧ i = .int .i64 k ∧ x = .slice ao L.length c ∧ Hid (St w rb w.heap.size wr (.slice ao L.length c) L) ∧ Hid (∀ x ∈ L, x.1.size ≤ 16)) (fun _ i _ => 6 - (intOf i).toNat)
  case atStart => exact ⟨0, [], _, 0, Nat.zero_le _, Nat.zero_le _, rfl, rfl, S0.out, fun x hx => by cases hx⟩
  case round =>
    clear S0
    obtain ⟨k, L, ao, c, hk, hL, rfl, rfl, hst, hsm⟩ := hrel
    by_cases hlt : k < 6
    · have hlt' : (k : Int) < 6 := by omega
      go_wp2_with fail
      refine (Rdr.once_any _ _ _ hst.out.1 (by decide) (by decide)).mono ?_
      rintro e w2 ⟨⟨x, rfl⟩, hp2⟩
      have S2 : Hid (St w rb w.heap.size w2 (.slice ao L.length c) L) := hst.out.post hp2
      clear hp2 hst
      cases x with
      | true =>
        go_wp2_with fail
        go_roundw
        case rel => exact ⟨k + 1, L, ao, c, by omega, by omega, by go_num, rfl, S2.out, hsm.out⟩
        case measure => simp [intOf]; omega
      | false =>
        obtain ⟨nm, hnm, ht⟩ := six_at k hlt
        have HN : Hid (∀ W v L, St w rb w.heap.size W v L → W.cell? ⟨w.heap.size, k, none⟩ = some (.string nm)) := fun W v L h => by
          rw [Lib.cell_of_heap h.2.2.2.2.1]; exact ht
        have c2 := HN.out _ _ _ S2.out
        obtain ⟨len, hlen⟩ : ∃ len, L.length = len := ⟨_, rfl⟩
        have HL : Hid (L.length = len) := hlen
        rw [hlen] at S2 hL ⊢
        clear hlen ht
        go_wp2_with fail
        go_region_law (first
          | (refine step_append_own rfl (.tmp 17) (.tmp 25) 26 rfl w.heap.size tP i0 (.agg #[.string ⟨#[]⟩, .int .i64 0]) 2 24 Try.underlying26 hi hz0 hz1 hz2 rfl (by decide) (.slice ao len c) len (cellsOf L) rfl ((S4.out.alloc _).row HL.out) ⟨w4.heap.size, 0, none⟩ 1 1 [.string nm, .int .i64 y1] rfl rfl (new2 _ _ _ _) (one2 _ _) (by unfold maxLen; omega) (by omega) (by have := S4.out.sized; simp; omega) ?_; intro v5 w5 o5 g5 _; have S5 : Hid (St w rb w.heap.size w5 v5 (L ++ [(nm, y1)])) := (S4.out.alloc _).more (by show World.ownsRow _ _ _ _ _ _ _; rw [cells_snoc, List.length_append, HL.out]; exact o5) g5; obtain ⟨ao5, cap5, rfl⟩ := slice_of o5; clear o5 g5)
          | (go_simp; go_at_call_of 23 (Value.int .i64 8); refine (Rdr.below_any _ _ _ S2.out.drew.1 (by decide) (by decide)).mono ?_; rintro e w4 ⟨⟨y1, y10, y11, rfl⟩, hp4⟩; have S4 : Hid (St w rb w.heap.size w4 (.slice ao len c) L) := S2.out.drew.post hp4; have c4 := HN.out _ _ _ S4.out; clear hp4)
          | fail)
        all_goals
          go_simp
          go_wp2_with fail
          have E5 : (L ++ [(nm, y1)]).length = len + 1 := by rw [List.length_append, HL.out]; rfl
          go_roundw
          case rel => exact ⟨k + 1, L ++ [(nm, y1)], ao5, cap5, by omega, by omega, by go_num, by rw [E5], by rw [E5]; exact S5.out, fun x hx => (List.mem_append.1 hx).elim (hsm.out x) fun hx => by rw [List.mem_singleton.1 hx]; show nm.size ≤ _; omega⟩
          case measure => simp [intOf]; omega
    · have hlt' : ¬ (k : Int) < 6 := by omega
      obtain ⟨len, hlen⟩ : ∃ len, L.length = len := ⟨_, rfl⟩
      have HL : Hid (L.length = len) := hlen
      rw [hlen] at hst hL ⊢
      clear hlen
      go_wp2_with fail
      refine (Rdr.once_any _ _ _ hst.out.1 (by decide) (by decide)).mono ?_
      rintro e w2 ⟨⟨x, rfl⟩, hp2⟩
      have S2 : Hid (St w rb w.heap.size w2 (.slice ao len c) L) := hst.out.post hp2
      clear hp2 hst
      have FIN : Hid (∀ W L', St w rb w.heap.size W (.slice ao len c) L' → L'.length = len → (∀ x ∈ L', x.1.size ≤ 16) → (∃ (L : List Pair) (ao' : Option Addr) (c' : Nat), Ending.returned (.slice ao len c) = .returned (.slice ao' L.length c') ∧ L.length ≤ 6 ∧ Pairs W ao' L ∧ ∀ p, ao' = some p → rb < p.block) ∧ Post w rb W) := fun W L' h1 h2 h3 =>
        ⟨⟨L', ao, c, by rw [h2], by omega, pairs_own (n := len) h1.2.2.2.2.2 h3, fun p hp => by have := (h1.2.2.2.2.2.lt p.block (by rw [hp]; rfl)).1; omega⟩, h1.1, h1.2.1⟩
      cases x with
      | false =>
        go_wp2
        go_ret
        exact FIN.out _ _ S2.out HL.out hsm.out
      | true =>
        by_cases h0 : len = 0
        · subst h0
          go_wp2
          go_ret
          exact FIN.out _ _ S2.out HL.out hsm.out
        · have d0 : (0 : Int) < (len : Int) := by omega
          have d0' : decide ((0 : Int) < (len : Int)) = true := decide_eq_true d0
          obtain ⟨p, L', rfl⟩ : ∃ p L', L = p :: L' := by
            cases L with
            | nil => have := HL.out; simp at this; omega
            | cons p L' => exact ⟨p, L', rfl⟩
          obtain ⟨g, rfl⟩ : ∃ g, ao = some ⟨g, 0, none⟩ := by
            rcases (S2.out.row HL.out).2 with ⟨_, h⟩ | ⟨g, _, _, hv, _⟩
            · omega
            · cases hv; exact ⟨g, rfl⟩
          go_wp2_with fail
          refine (Rdr.off_any _ _ _ _ S2.out.1 (by decide) (by decide) (by decide)).mono ?_
          rintro e w3 ⟨⟨y, hwy, rfl⟩, hp3⟩
          have S3 : Hid (St w rb w.heap.size w3 (.slice (some ⟨g, 0, none⟩) len c) (p :: L')) := S2.out.post hp3
          clear hp3 S2
          have hrow := S3.out.row HL.out
          have hfz := hrow.frozenAt 1
          have hcl := hrow.cellAt 1 (by omega)
          have hcl : w3.cell? ⟨g, 1, none⟩ = some (.int .i64 p.2) := hcl.trans rfl
          have SP : Hid (St w rb w.heap.size (w3.setCell ⟨g, 1, none⟩ (.int .i64 y)) (.slice (some ⟨g, 0, none⟩) len c) ((p.1, y) :: L')) := S3.out.put HL.out y
          have SM : Hid (∀ x ∈ ((p.1, y) :: L'), x.1.size ≤ 16) := fun x hx => by
            rcases List.mem_cons.1 hx with rfl | hx
            · exact hsm.out p (List.mem_cons_self ..)
            · exact hsm.out x (List.mem_cons_of_mem _ hx)
          clear hrow S3
          go_wp2
          go_ret
          exact FIN.out _ _ SP.out HL.out SM.out
theorem pairs_post {W W' : World} {rb : Nat} {ao : Option Addr} {L : List Pair} (h : Pairs W ao L) (hr : ∀ p, ao = some p → rb < p.block) (hg : W.grownBy W' (some rb)) : Pairs W' ao L := by
  rcases h with h | ⟨b, off, rfl, hb, hc⟩
  · exact .inl h
  · have hk : W'.heap[b]? = W.heap[b]? := hg.block b hb (fun e => by have := hr _ rfl; have e' : b = rb := Option.some.inj e; simp at this; omega)
    refine .inr ⟨b, off, rfl, Nat.lt_of_lt_of_le hb hg.size, fun i hi => ?_⟩
    obtain ⟨d0, d1, d2⟩ := hc i hi
    exact ⟨(World.cell?_of_block (a := ⟨b, _, none⟩) hk).trans d0, (World.cell?_of_block (a := ⟨b, _, none⟩) hk).trans d1, d2⟩
end Go.Proofs.Ytjhacbkmoepffaa.DrawM
