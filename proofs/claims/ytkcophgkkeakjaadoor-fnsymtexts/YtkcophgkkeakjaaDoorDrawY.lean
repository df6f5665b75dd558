/-
  What spec.DrawSymText and spec.DrawReadSyms can draw; sameSyms.
-/
import Derived.Test.YtkcophgkkeakjaaDoorSymm
import Derived.Test.YtkcophgkkeakjaaDoorDraw
import Derived.Deep.RegionLaw
namespace Go.Proofs.YtkcophgkkeakjaaDoor.DrawY
open Go.ChangeShapes Go.WideShapes Go.ChangeAt Go.RowKit Go.Deep
open Rdr (Rd Post)
open Symr (Sym Syms)
open Symq (cellsOf Own cells_len cells_at cells_snoc)
set_option linter.unusedVariables false

theorem own_ne {w : World} {base : Nat} {v : Value} {n : Nat} {xs : List Value} (h : w.ownsRow base 40 3 v n xs) {nb : Nat} {C : Array Value} {fz : Nat × Nat} (hn : w.heap[nb]? = some (.cells C 9 fz)) : v.ownBlock ≠ some nb := by
  intro e
  rcases h.2 with ⟨rfl, _⟩ | ⟨g, cap, cur, rfl, _, hg, _⟩
  · cases e
  · cases e
    rw [hn] at hg
    cases hg
theorem step_append_own {P : Program} {ops : Array Oper} {o : Oper} {a : Act} {w : World} {K : Act → World → Prop} {Q : Exit → Act → World → Prop} {E : Prop} (hg : o.guard = none) (s x : Operand) (t : TypeId)
    (ho : o.op = .call { callee := .builtin .append, args := #[s, x], argTypes := #[t, t] })
    (base : Nat) (e : TypeId) (i : TypeInfo) (z : Value) (size bytes : Nat) (ht : P.underlying t = some (.slice e)) (hi : P.info? e = some i) (hz : i.zero = some z)
    (hsize : i.size = size) (hby : i.bytes = bytes) (hzs : z.cells.size = size) (hsz : 0 < size)
    (v : Value) (n : Nat) (xs : List Value) (hs : a.eval s = v) (hown : w.ownsRow base e size v n xs)
    (ad : Addr) (m c : Nat) (news : List Value) (hx : a.eval x = .slice (some ad) m c) (hl : news.length = m * size) (hnews : ∀ j u, news[j]? = some u → w.cell? (ad.add j) = some u) (h1 : ∀ u ∈ news, u.oneCell' = true)
    (h63 : n + m ≤ maxLen) (hbytes : (n + m) * bytes ≤ 140737488355328) (hbase : base ≤ w.heap.size)
    (h : ∀ v' w', w'.ownsRow base e size v' (n + m) (xs ++ news) → w.grownBy w' v.ownBlock → (v' = .slice none 0 0 ↔ v = .slice none 0 0 ∧ m = 0) → K (a.put o.dst v') w') :
    if Region.wanted o (yielded ops a.tmps) = true then Oper.wp P o a w K Q else E := by
  have hw : Region.wanted o (yielded ops a.tmps) = true := by simp [Region.wanted, hg]
  rw [if_pos hw]
  exact wp_append_own w s x t ho base e i z size bytes ht hi hz hsize hby hzs hsz v n xs hs hown ad m c news hx hl hnews h1 h63 hbytes hbase h
def three : Array Value := #[.string ⟨#[97]⟩, .string ⟨#[98, 46, 120]⟩, .string ⟨#[122, 122]⟩]
/-- While it is drawn: the reader, what was there, the names, the row. -/
def St (w1 : World) (rb nb : Nat) (W : World) (v : Value) (L : List Sym) : Prop :=
  Rd W rb ∧ w1.grownBy W (some rb) ∧ rb < w1.heap.size ∧ rb < nb ∧ W.heap[nb]? = some (.cells three 9 (0, 0)) ∧ Own W w1.heap.size v L
theorem St.lt {w1 : World} {rb nb : Nat} {W : World} {v : Value} {L : List Sym} (h : St w1 rb nb W v L) : nb < W.heap.size := (Array.getElem?_eq_some_iff.1 h.2.2.2.2.1).1
theorem St.post {w1 : World} {rb nb : Nat} {W W' : World} {v : Value} {L : List Sym} (h : St w1 rb nb W v L) (hp : Post W rb W') : St w1 rb nb W' v L := by
  have hl := h.lt
  obtain ⟨h1, h2, h3, h4, h5, h6⟩ := h
  refine ⟨hp.1, h2.trans hp.2, h3, h4, (hp.2.block nb hl (fun e => by cases e; omega)).trans h5, h6.kept hp.2 ?_⟩
  cases hv : v.ownBlock with
  | none => exact .inl rfl
  | some g => exact .inr fun e => by cases e; have := (h6.lt _ hv).1; omega
theorem St.drew {w1 : World} {rb nb : Nat} {W : World} {v : Value} {L : List Sym} (h : St w1 rb nb W v L) : St w1 rb nb W.drew v L := h.post (Post.of h.1 rfl rfl rfl rfl)
theorem St.alloc {w1 : World} {rb nb : Nat} {W : World} {v : Value} {L : List Sym} (h : St w1 rb nb W v L) (o : Obj) : St w1 rb nb (W.alloc o) v L := h.post ((Post.refl h.1).alloc o)
theorem St.more {w1 : World} {rb nb : Nat} {W W' : World} {v v' : Value} {L L' : List Sym} (h : St w1 rb nb W v L) (ho : Own W' w1.heap.size v' L') (hg : W.grownBy W' v.ownBlock) : St w1 rb nb W' v' L' := by
  have hl := h.lt
  obtain ⟨h1, h2, h3, h4, h5, h6⟩ := h
  have hr := h1.lt
  have hz := h2.size
  refine ⟨h1.kept fun k hk => hg.block k (by omega) fun e => ?_, ⟨hg.os.trans h2.os, hg.tape.trans h2.tape, hg.output.trans h2.output, Nat.le_trans h2.size hg.size, fun k hk hne => (hg.block k (by omega) fun e => ?_).trans (h2.block k hk hne)⟩, h3, h4, (hg.block nb hl fun e => own_ne h6 h5 e.symm).trans h5, ho⟩
  · have := (h6.lt k e.symm).1; omega
  · have := (h6.lt k e.symm).1; omega
theorem three_at (k : Nat) (h : k < 3) : ∃ t : ByteArray, t.size ≤ 16 ∧ three[k]? = some (.string t) := by
  match k, h with
  | 0, _ => exact ⟨_, by decide, rfl⟩
  | 1, _ => exact ⟨_, by decide, rfl⟩
  | 2, _ => exact ⟨_, by decide, rfl⟩
theorem St.row {w1 : World} {rb nb : Nat} {W : World} {v : Value} {L : List Sym} {len : Nat} (h : St w1 rb nb W v L) (hl : L.length = len) : W.ownsRow w1.heap.size 40 3 v len (cellsOf L) := by
  rw [← hl]; exact h.2.2.2.2.2
theorem new3 (w : World) (a b c : Value) (t : TypeId) : ∀ j u, [a, b, c][j]? = some u → (w.alloc (.cells #[a, b, c] t)).cell? ((⟨w.heap.size, 0, none⟩ : Addr).add j) = some u := by
  intro j u hj
  match j, hj with
  | 0, hj => simp at hj; subst hj; show World.cell? _ ⟨w.heap.size, 0, none⟩ = _; rw [World.cell?_alloc_new]; rfl
  | 1, hj => simp at hj; subst hj; show World.cell? _ ⟨w.heap.size, 1, none⟩ = _; rw [World.cell?_alloc_new]; rfl
  | 2, hj => simp at hj; subst hj; show World.cell? _ ⟨w.heap.size, 2, none⟩ = _; rw [World.cell?_alloc_new]; rfl
theorem one3 (s : ByteArray) (x y : Int) : ∀ u ∈ [Value.string s, .int .i64 x, .int .i64 y], u.oneCell' = true := by
  intro u hu; simp at hu; rcases hu with rfl | rfl | rfl <;> rfl
theorem St.sized {w1 : World} {rb nb : Nat} {W : World} {v : Value} {L : List Sym} (h : St w1 rb nb W v L) : w1.heap.size ≤ W.heap.size := h.2.1.size
theorem slice_of {w : World} {base e size n : Nat} {v : Value} {xs : List Value} (h : w.ownsRow base e size v (n + 1) xs) : ∃ ao c, v = .slice ao (n + 1) c := by
  rcases h.2 with ⟨_, h⟩ | ⟨g, c, cur, hv, _⟩
  · omega
  · exact ⟨_, _, hv⟩
set_option maxHeartbeats 2000000 in
theorem drawText_any (a : Option Addr) (len cap : Nat) (zs : List Int) (w : World) (h : Rdr.IsRow .u8 w a len cap zs) :
    Calls Tryd.prog 16 #[.slice a len cap] w fun e w' => ∃ (L : List Sym) (ao : Option Addr) (c : Nat), e = .returned (.slice ao L.length c) ∧ L.length ≤ 3 ∧ (∀ x ∈ L, x.1.size ≤ 1048576) ∧ Syms w' ao L ∧ Below w.heap.size w w' := by
  obtain ⟨i0, hi, hz0, hz1, hz2⟩ := info_parts Symr.infoY
  have H : Hid (Rdr.IsRow .u8 w a len cap zs) := h
  clear h
  go_enter Tryd.func16, Tryd.ntmps16
  go_wp2_with fail
  refine (Rdr.open_any _ _ _ _ _ H.out).mono ?_
  rintro e w1 ⟨rfl, hr, hb⟩
  have hrl := hr.lt
  have R1 : Hid (Rd w1 w.heap.size) := hr
  have B1 : Hid (Below w.heap.size w w1) := hb
  clear hr hb H
  go_wp2_with fail
  have S0 : Hid (St w1 w.heap.size (w1.heap.size + 1) ((w1.alloc (.cells #[] 40)).alloc (.cells #[.string ⟨#[97]⟩, .string ⟨#[98, 46, 120]⟩, .string ⟨#[122, 122]⟩] 9)) (.slice (some ⟨w1.heap.size, 0, none⟩) 0 0) []) := by
    have hp := ((Post.refl R1.out).alloc (.cells #[] 40)).alloc (.cells three 9)
    refine ⟨hp.1, hp.2, hrl, by omega, ?_, ((World.ownsRow_lit w1 #[] 0 (Nat.le_refl _) (Nat.zero_le _) rfl : Own (w1.alloc (.cells #[] 40)) w1.heap.size (.slice (some ⟨w1.heap.size, 0, none⟩) 0 0) []).alloc _)⟩
    have := (MapKept.heap_alloc (w1.alloc (.cells #[] 40)) (.cells three 9)).1
    rwa [World.size_alloc] at this
  generalize (w1.alloc (.cells #[] 40)).alloc (.cells #[.string ⟨#[97]⟩, .string ⟨#[98, 46, 120]⟩, .string ⟨#[122, 122]⟩] 9) = W0 at S0 ⊢
  obtain ⟨nb, hnb⟩ : ∃ nb, nb = w1.heap.size + 1 := ⟨_, rfl⟩
  obtain ⟨rb, hrb⟩ : ∃ rb, rb = w.heap.size := ⟨_, rfl⟩
  have HR : Hid (rb = w.heap.size) := hrb
  rw [← hnb, ← hrb] at S0 ⊢
  clear hnb hrb R1
  go_loopw [4, 6] (fun x i wr => ∃ (k : Nat) (L : List Sym) (ao : Option Addr) (c : Nat), k ≤ 3 ∧ L.length ≤ k ∧ i = .int .i64 k ∧ x = .slice ao L.length c ∧ Hid (St w1 rb nb wr (.slice ao L.length c) L) ∧ Hid (∀ x ∈ L, x.1.size ≤ 1048576)) (fun _ i _ => 3 - (intOf i).toNat)
  case atStart => exact ⟨0, [], _, 0, Nat.zero_le _, Nat.zero_le _, rfl, rfl, S0.out, fun x hx => by cases hx⟩
  case round =>
    clear S0
    obtain ⟨k, L, ao, c, hk, hL, rfl, rfl, hst, hsm⟩ := hrel
    by_cases hlt : k < 3
    · go_wp2_with fail
      refine (Rdr.once_any _ _ _ hst.out.1 (by decide) (by decide)).mono ?_
      rintro e w2 ⟨⟨x, rfl⟩, hp2⟩
      have S2 : Hid (St w1 rb nb w2 (.slice ao L.length c) L) := hst.out.post hp2
      clear hp2 hst
      cases x with
      | false =>
        go_wp2_with fail
        go_roundw
        case rel => exact ⟨k + 1, L, ao, c, by omega, by omega, by go_num, rfl, S2.out, hsm.out⟩
        case measure => simp [intOf]; omega
      | true =>
        obtain ⟨nm, hnm, ht⟩ := three_at k hlt
        have HN : Hid (∀ W v L, St w1 rb nb W v L → W.cell? ⟨nb, k, none⟩ = some (.string nm)) := fun W v L h => by
          rw [Lib.cell_of_heap h.2.2.2.2.1]; exact ht
        have c2 := HN.out _ _ _ S2.out
        obtain ⟨len, hlen⟩ : ∃ len, L.length = len := ⟨_, rfl⟩
        have HL : Hid (L.length = len) := hlen
        rw [hlen] at S2 hL ⊢
        clear hlen ht
        go_wp2_with fail
        go_region_law (first
          | (refine step_append_own rfl (.tmp 19) (.tmp 29) 25 rfl w1.heap.size 40 i0 (.agg #[.string ⟨#[]⟩, .int .i64 0, .int .i64 0]) 3 32 Tryd.underlying25 hi hz0 hz1 hz2 rfl (by decide) (.slice ao len c) len (cellsOf L) rfl ((S4.out.alloc _).row HL.out) ⟨w4.heap.size, 0, none⟩ 1 1 [.string nm, .int .i64 y1, .int .i64 y2] rfl rfl (new3 _ _ _ _ _) (one3 _ _ _) (by unfold maxLen; omega) (by omega) (by have := S4.out.sized; simp; omega) ?_; intro v5 w5 o5 g5 _; have S5 : Hid (St w1 rb nb w5 v5 (L ++ [(nm, y1, y2)])) := (S4.out.alloc _).more (by show World.ownsRow _ _ _ _ _ _ _; rw [cells_snoc, List.length_append, HL.out]; exact o5) g5; obtain ⟨ao5, cap5, rfl⟩ := slice_of o5; clear o5 g5)
          | (go_simp; go_at_call_of 39 (Value.int .i64 16); refine (Rdr.below_any _ _ _ S2.out.drew.1 (by decide) (by decide)).mono ?_; rintro e w3 ⟨⟨y1, y10, y11, rfl⟩, hp3⟩; have S3 : Hid (St w1 rb nb w3 (.slice ao len c) L) := S2.out.drew.post hp3; have c3 := HN.out _ _ _ S3.out; clear hp3)
          | (go_simp; go_at_call_of 39 (Value.int .i64 70000); refine (Rdr.below_any _ _ _ S3.out.1 (by decide) (by decide)).mono ?_; rintro e w4 ⟨⟨y2, y20, y21, rfl⟩, hp4⟩; have S4 : Hid (St w1 rb nb w4 (.slice ao len c) L) := S3.out.post hp4; have c4 := HN.out _ _ _ S4.out; clear hp4)
          | fail)
        all_goals
          go_simp
          go_wp2_with fail
          have E5 : (L ++ [(nm, y1, y2)]).length = len + 1 := by rw [List.length_append, HL.out]; rfl
          go_roundw
          case rel => exact ⟨k + 1, L ++ [(nm, y1, y2)], ao5, cap5, by omega, by omega, by go_num, by rw [E5], by rw [E5]; exact S5.out, fun x hx => (List.mem_append.1 hx).elim (hsm.out x) fun hx => by rw [List.mem_singleton.1 hx]; show nm.size ≤ _; omega⟩
          case measure => simp [intOf]; omega
    · obtain ⟨len, hlen⟩ : ∃ len, L.length = len := ⟨_, rfl⟩
      have HL : Hid (L.length = len) := hlen
      rw [hlen] at hst hL ⊢
      clear hlen
      go_wp2_with fail
      go_ret
      refine ⟨L, ao, c, by rw [HL.out]; rfl, by rw [HL.out]; omega, hsm.out, Symq.syms_own (n := len) hst.out.2.2.2.2.2 hsm.out, B1.out.trans ?_⟩
      exact (Post.below (w := w1) ⟨hst.out.1, hst.out.2.1⟩ (Nat.le_of_eq HR.out.symm) (Nat.le_of_lt hst.out.2.2.1))

theorem symT_size (L : List Sym) (h : L.length ≤ 3) : (Symt.symT L).size ≤ 100000 := by
  by_cases hr : Symt.Right L
  · rw [Symt.symT_yes hr]
    show (Symt.textL L).toArray.size ≤ _
    rw [List.size_toArray]
    have : ∀ L : List Sym, (∀ x ∈ L, Symp.Good x) → (Symt.textL L).length ≤ 40 * L.length := by
      intro L
      induction L with
      | nil => intro _; exact Nat.le_refl _
      | cons x L ih =>
        intro hg
        have e : Symt.textL (x :: L) = Symt.lineT x ++ Symt.textL L := by unfold Symt.textL; rw [List.flatMap_cons]
        have hx := hg x (List.mem_cons_self ..)
        have h1 := ih fun y hy => hg y (List.mem_cons_of_mem _ hy)
        have l2 := Symp.hx_len2 hx.2.1
        have l4 := Symp.hx_len4 hx.2.2
        have ln := (Symt.name_le hx.1).2
        rw [e, List.length_append, List.length_cons]
        have : (Symt.lineT x).length ≤ 40 := by
          unfold Symt.lineT
          simp only [List.length_append, List.length_cons, List.length_nil]
          rw [l2, l4, Symp.len_size]; omega
        omega
    have := this L (Symp.good_of hr)
    omega
  · rw [Symt.symT_no hr]; exact Nat.zero_le _
set_option maxHeartbeats 1000000 in
theorem drawRead_any (a : Option Addr) (len cap : Nat) (zs : List Int) (w : World) (h : Rdr.IsRow .u8 w a len cap zs) :
    Calls Tryd.prog 18 #[.slice a len cap] w fun e w' => (∃ s : ByteArray, s.size ≤ 1000000 ∧ e = .returned (.string s)) ∧ Below w.heap.size w w' := by
  have H : Hid (Rdr.IsRow .u8 w a len cap zs) := h
  clear h
  go_enter Tryd.func18, Tryd.ntmps18
  go_wp2_with fail
  refine (Rdr.open_any _ _ _ _ _ H.out).mono ?_
  rintro e w1 ⟨rfl, hr, hb⟩
  have hrl := hr.lt
  have R1 : Hid (Rd w1 w.heap.size) := hr
  have B1 : Hid (Below w.heap.size w w1) := hb
  clear hr hb
  go_wp2_with fail
  refine (drawText_any _ _ _ _ _ (H.out.below B1.out)).mono ?_
  rintro e w2 ⟨L, ao, c, rfl, hL, hz, hS, b2⟩
  have B2 : Hid (Below w1.heap.size w1 w2) := b2
  have S2 : Hid (Syms w2 ao L) := hS
  have zt := symT_size L hL
  have ct := fun w hN => Symt.specText_any ao c L w hN (by omega)
  generalize Symt.symT L = T at ct zt
  clear b2 hS hz H
  go_wp2_with fail
  refine (ct _ S2.out).mono ?_
  rintro e w3 ⟨rfl, b3⟩
  have B3 : Hid (Below w1.heap.size w1 w3) := B2.out.trans (b3.mono B2.out.size)
  have R3 : Hid (Rd w3 w.heap.size) := R1.out.kept fun k hk => B3.out.block k (by omega)
  clear b3 S2 B2 ct
  go_wp2_with fail
  refine (Rdr.once_any _ _ _ R3.out (by decide) (by decide)).mono ?_
  rintro e w4 ⟨⟨x, rfl⟩, hp4⟩
  have B4 : Hid (Below w.heap.size w w4) := (B1.out.trans (B3.out.mono B1.out.size)).trans (hp4.below (Nat.le_refl _) (Nat.le_of_lt R3.out.lt))
  have R4 : Hid (Rd w4 w.heap.size) := hp4.1
  clear hp4
  cases x with
  | true =>
    go_wp2
    go_ret
    exact ⟨⟨T, by omega, rfl⟩, B4.out⟩
  | false =>
    go_wp2_with fail
    refine (Draw.hurt_any _ _ _ R4.out (by omega)).mono ?_
    rintro e w5 ⟨⟨t, ht, rfl⟩, hp5⟩
    have B5 : Hid (Below w.heap.size w w5) := B4.out.trans (hp5.below (Nat.le_refl _) (Nat.le_of_lt R4.out.lt))
    clear hp5
    go_wp2
    go_ret
    exact ⟨⟨t, by omega, rfl⟩, B5.out⟩

set_option maxHeartbeats 1000000 in
theorem sameSyms_any (a a' : Option Addr) (cap cap' : Nat) (L : List Sym) (w : World) (hN : Syms w a L) (hN' : Syms w a' L) (hlen : L.length ≤ 1048576) :
    Calls Tryd.prog 17 #[.slice a L.length cap, .slice a' L.length cap'] w fun e w' => e = .returned (.bool true) ∧ Below w.heap.size w w' := by
  obtain ⟨len, hl⟩ : ∃ len, len = L.length := ⟨_, rfl⟩
  have HL : Hid (len = L.length) := hl
  rw [← hl] at hlen ⊢
  clear hl
  go_enter Tryd.func17, Tryd.ntmps17
  go_wp2
  go_loopw [5] (fun i wr => ∃ k : Nat, k ≤ len ∧ i = .int .i64 k ∧ Hid (Below w.heap.size w wr)) (fun i _ => len - (intOf i).toNat)
  case atStart => exact ⟨0, Nat.zero_le _, rfl, Below.refl _ _⟩
  case round =>
    obtain ⟨k, hk, rfl, hbel⟩ := hrel
    by_cases hlt : k < len
    · have hkL : k < L.length := by have := HL.out; omega
      rcases hN with hnil | ⟨b, off, rfl, hb, hc⟩
      · exfalso; rw [hnil] at hkL; exact absurd hkL (by simp)
      rcases hN' with hnil | ⟨b', off', rfl, hb', hc'⟩
      · exfalso; rw [hnil] at hkL; exact absurd hkL (by simp)
      obtain ⟨c0, c1, c2⟩ : wr.cell? ⟨b, off + k * 3, none⟩ = some (.string L[k].1) ∧ wr.cell? ⟨b, off + k * 3 + 1, none⟩ = some (.int .i64 L[k].2.1) ∧ wr.cell? ⟨b, off + k * 3 + 2, none⟩ = some (.int .i64 L[k].2.2) := by
        obtain ⟨d0, d1, d2, d3⟩ := hc k hkL
        exact ⟨(hbel.out.cell (p := ⟨b, _, none⟩) hb).trans d0, (hbel.out.cell (p := ⟨b, _, none⟩) hb).trans d1, (hbel.out.cell (p := ⟨b, _, none⟩) hb).trans d2⟩
      obtain ⟨e0, e1, e2⟩ : wr.cell? ⟨b', off' + k * 3, none⟩ = some (.string L[k].1) ∧ wr.cell? ⟨b', off' + k * 3 + 1, none⟩ = some (.int .i64 L[k].2.1) ∧ wr.cell? ⟨b', off' + k * 3 + 2, none⟩ = some (.int .i64 L[k].2.2) := by
        obtain ⟨d0, d1, d2, d3⟩ := hc' k hkL
        exact ⟨(hbel.out.cell (p := ⟨b', _, none⟩) hb').trans d0, (hbel.out.cell (p := ⟨b', _, none⟩) hb').trans d1, (hbel.out.cell (p := ⟨b', _, none⟩) hb').trans d2⟩
      clear hc hc'
      generalize L[k].1 = s at c0 e0
      generalize L[k].2.1 = kd at c1 e1
      generalize L[k].2.2 = n at c2 e2
      have k0 : (0 : Int) ≤ (k : Int) := by omega
      have k1 : (k : Int) < (len : Int) := by omega
      go_wp2_with fail
      go_quiet (fail)
      go_wp2_with fail
      go_roundw
      case rel => exact ⟨k + 1, by omega, by go_num, Symt.drewN_below hbel.out _⟩
      case measure => simp [intOf]; omega
    · clear hN hN'
      go_wp2
      go_ret
      exact ⟨rfl, hbel.out⟩
end Go.Proofs.YtkcophgkkeakjaaDoor.DrawY
