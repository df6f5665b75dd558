/-
  What can be drawn of chapter 14: a contract of ours for spec.DrawDiffOf and spec.DrawApplied.
-/
import Derived.Test.YtbfjalpkdgepnaaDifs
import Derived.Test.YtbfjalpkdgepnaaDraw
import Derived.Maps.AppendAt
import Derived.RangeFuncBox
namespace Go.Proofs.Ytbfjalpkdgepnaa.DrawD
open Go.ChangeShapes Go.WideShapes Go.ChangeAt Go.RowKit Go.Deep
open Rdr
set_option linter.unusedVariables false
set_option maxRecDepth 20000
abbrev tO : TypeId := 25
theorem info5 : (Try.prog.info? 5).map (fun i => (i.zero, i.size, i.bytes)) = some (some (.int .u8 0), 1, 1) := by kernel_rfl
/-- The row's bytes, as a text. -/
theorem str_own {W : World} {base : Nat} {v : Value} {l : List UInt8} (h : W.ownsRow base 5 1 v l.length (Lib.byteCells l)) : (convert 25 9 v).run Try.prog W = .ok (.string ⟨l.toArray⟩) W := by
  rcases h.2 with ⟨rfl, h0⟩ | ⟨g, cap, cur, rfl, _, hg, hn, hm, hc, ht⟩
  · obtain rfl : l = [] := List.length_eq_zero_iff.1 h0
    exact run_convert_bytes_nil (P := Try.prog) _ 25 5 Try.underlying25 Try.underlying5 0 0 9 Try.underlying9
  · refine run_convert_bytes_back (P := Try.prog) W 25 9 5 ⟨g, 0, none⟩ cap l Try.underlying25 Try.underlying5 Try.underlying9 (fun j hj => ?_)
    refine h.cells (g := g) rfl j _ ?_
    unfold Lib.byteCells
    rw [List.getElem?_map, List.getElem?_eq_getElem hj]
    rfl
theorem str_pre {W : World} {base g n cap y : Nat} {l : List UInt8} (h : W.ownsRow base 5 1 (.slice (some ⟨g, 0, none⟩) n cap) n (Lib.byteCells l)) (hy : y ≤ l.length) : (convert 25 9 (.slice (some ⟨g, 0, none⟩) y cap)).run Try.prog W = .ok (.string ⟨(l.take y).toArray⟩) W := by
  have e : (l.take y).length = y := by rw [List.length_take]; omega
  have := run_convert_bytes_back (P := Try.prog) W 25 9 5 ⟨g, 0, none⟩ cap (l.take y) Try.underlying25 Try.underlying5 Try.underlying9 (fun j hj => by
    rw [e] at hj
    refine h.cells (g := g) rfl j _ ?_
    unfold Lib.byteCells
    rw [List.getElem?_map, List.getElem?_eq_getElem (by omega), List.getElem_take]
    rfl)
  rw [e] at this
  exact this
theorem cap_of {W : World} {base g n cap : Nat} {xs : List Value} (h : W.ownsRow base 5 1 (.slice (some ⟨g, 0, none⟩) n cap) n xs) : n ≤ cap ∧ cap ≤ maxLen := by
  rcases h.2 with ⟨h, _⟩ | ⟨g', cap', cur, h', hb, hg, hnc, hcm, hcs, htake⟩
  · cases h
  · cases h'; exact ⟨hnc, hcm⟩
/-- While it is drawn: the reader, what was there, the row. -/
def St (w1 : World) (rb : Nat) (W : World) (v : Value) (L : List UInt8) : Prop :=
  Rd W rb ∧ w1.grownBy W (some rb) ∧ rb < w1.heap.size ∧ W.ownsRow w1.heap.size 5 1 v L.length (Lib.byteCells L)
theorem St.post {w1 : World} {rb : Nat} {W W' : World} {v : Value} {L : List UInt8} (h : St w1 rb W v L) (hp : Post W rb W') : St w1 rb W' v L := by
  obtain ⟨h1, h2, h3, h6⟩ := h
  refine ⟨hp.1, h2.trans hp.2, h3, h6.kept hp.2 ?_⟩
  cases hv : v.ownBlock with
  | none => exact .inl rfl
  | some g => exact .inr fun e => by cases e; have := (h6.lt _ hv).1; omega
theorem St.alloc {w1 : World} {rb : Nat} {W : World} {v : Value} {L : List UInt8} (h : St w1 rb W v L) (o : Obj) : St w1 rb (W.alloc o) v L := h.post ((Post.refl h.1).alloc o)
theorem St.drew {w1 : World} {rb : Nat} {W : World} {v : Value} {L : List UInt8} (h : St w1 rb W v L) : St w1 rb W.drew v L := h.post (Post.of h.1 rfl rfl rfl rfl)
theorem St.push {w1 : World} {rb : Nat} {W W' : World} {v v' : Value} {L : List UInt8} {b : UInt8} {n : Nat} {o : Obj} (h : St w1 rb W v L) (hn : n = L.length) (ho : W'.ownsRow w1.heap.size 5 1 v' (n + 1) (Lib.byteCells L ++ [.int .u8 b.toNat])) (hg : (W.alloc o).grownBy W' v.ownBlock) : St w1 rb W' v' (L ++ [b]) := by
  subst hn
  obtain ⟨h1, h2, h3, h6⟩ := h.alloc o
  have hr := h1.lt
  have hz := h2.size
  have e : Lib.byteCells (L ++ [b]) = Lib.byteCells L ++ [.int .u8 b.toNat] := by simp [Lib.byteCells]
  refine ⟨h1.kept fun k hk => hg.block k (by omega) fun e => ?_, ⟨hg.os.trans h2.os, hg.tape.trans h2.tape, hg.output.trans h2.output, Nat.le_trans h2.size hg.size, fun k hk hne => (hg.block k (by omega) fun e => ?_).trans (h2.block k hk hne)⟩, h3, by rw [List.length_append, e]; exact ho⟩
  · have := (h6.lt k e.symm).1; omega
  · have := (h6.lt k e.symm).1; omega
theorem St.pushs {w1 : World} {rb : Nat} {W W' : World} {v v' : Value} {L bs : List UInt8} {n : Nat} {o : Obj} (h : St w1 rb W v L) (hn : n = L.length) (ho : W'.ownsRow w1.heap.size 5 1 v' (n + bs.length) (Lib.byteCells L ++ Lib.byteCells bs)) (hg : (W.alloc o).grownBy W' v.ownBlock) : St w1 rb W' v' (L ++ bs) := by
  subst hn
  obtain ⟨h1, h2, h3, h6⟩ := h.alloc o
  have hr := h1.lt
  have hz := h2.size
  have e : Lib.byteCells (L ++ bs) = Lib.byteCells L ++ Lib.byteCells bs := by simp [Lib.byteCells]
  refine ⟨h1.kept fun k hk => hg.block k (by omega) fun e => ?_, ⟨hg.os.trans h2.os, hg.tape.trans h2.tape, hg.output.trans h2.output, Nat.le_trans h2.size hg.size, fun k hk hne => (hg.block k (by omega) fun e => ?_).trans (h2.block k hk hne)⟩, h3, by rw [List.length_append, e]; exact ho⟩
  · have := (h6.lt k e.symm).1; omega
  · have := (h6.lt k e.symm).1; omega
theorem St.row {w1 : World} {rb : Nat} {W : World} {v : Value} {L : List UInt8} {len : Nat} (h : St w1 rb W v L) (hl : len = L.length) : W.ownsRow w1.heap.size 5 1 v len (Lib.byteCells L) := by
  rw [hl]; exact h.2.2.2
theorem St.new {w1 : World} {rb : Nat} (h : Rd w1 rb) : St w1 rb (w1.alloc (.cells #[] 5)) (.slice (some ⟨w1.heap.size, 0, none⟩) 0 0) [] := by
  have hp := (Post.refl h).alloc (.cells #[] 5)
  exact ⟨hp.1, hp.2, h.lt, World.ownsRow_lit w1 #[] 0 (Nat.le_refl _) (Nat.zero_le _) rfl⟩
theorem St.below {w w1 : World} {W : World} {v : Value} {L : List UInt8} (h : St w1 w.heap.size W v L) (hb : Below w.heap.size w w1) : Below w.heap.size w W :=
  hb.trans (Post.below (w := w1) ⟨h.1, h.2.1⟩ (Nat.le_refl _) (Nat.le_of_lt h.2.2.1))
/-- A row made anew, with another's bytes. -/
theorem St.copied {wr w6 : World} {rb : Nat} {v' : Value} {L : List UInt8} {n : Nat} (hn : n = L.length) (h : Rd wr rb) (ho : w6.ownsRow wr.heap.size 5 1 v' n (Lib.byteCells L)) (hg : (wr.alloc (.cells #[] 5)).grownBy w6 (some wr.heap.size)) : St wr rb w6 v' L := by
  subst hn
  have hk : ∀ k, k < wr.heap.size → w6.heap[k]? = wr.heap[k]? := fun k hk => (hg.block k (by simp; omega) (fun e => by have := Option.some.inj e; omega)).trans ((World.grownBy_alloc wr _ none).block k hk (by simp))
  have hl := h.lt
  exact ⟨h.kept fun k hk' => hk k (by omega), ⟨hg.os, hg.tape, hg.output, by have := hg.size; simp at this; omega, fun k hk' _ => hk k hk'⟩, hl, ho⟩
theorem St.put {w1 : World} {rb : Nat} {W : World} {g n c : Nat} {L : List UInt8} (h : St w1 rb W (.slice (some ⟨g, 0, none⟩) n c) L) (hn : n = L.length) (j : Nat) (b : UInt8) : St w1 rb (W.setCell ⟨g, j, none⟩ (.int .u8 b.toNat)) (.slice (some ⟨g, 0, none⟩) n c) (L.set j b) := by
  subst hn
  obtain ⟨h1, h2, h3, h6⟩ := h
  obtain ⟨k1, k2⟩ := h6.stored j (.int .u8 b.toNat)
  have hg := (h6.lt g rfl).1
  have e : (Lib.byteCells L).set j (.int .u8 b.toNat) = Lib.byteCells (L.set j b) := by simp [Lib.byteCells]
  rw [e] at k1
  refine ⟨h1.kept fun k hk => k2.block k (by have := h1.lt; omega) fun e => by have := Option.some.inj e; omega, ⟨k2.os.trans h2.os, k2.tape.trans h2.tape, k2.output.trans h2.output, Nat.le_trans h2.size k2.size, fun k hk hne => (k2.block k (by have := h2.size; omega) fun e => by have := Option.some.inj e; omega).trans (h2.block k hk hne)⟩, h3, by rw [List.length_set]; exact k1⟩
/-- The first row stands while the second is drawn. -/
theorem St.under {w1 wr : World} {rb : Nat} {W : World} {g n c : Nat} {L : List UInt8} {v : Value} {M : List UInt8} (h : St w1 rb wr (.slice (some ⟨g, 0, none⟩) n c) L) (k : St wr rb W v M) : W.ownsRow w1.heap.size 5 1 (.slice (some ⟨g, 0, none⟩) n c) L.length (Lib.byteCells L) :=
  h.2.2.2.kept k.2.1 (.inr fun e => by have := (h.2.2.2.lt g rfl).1; have e' : g = rb := Option.some.inj e; have := h.2.2.1; omega)
set_option maxHeartbeats 2000000 in
theorem drawDiff_any (a : Option Addr) (len cap : Nat) (zs : List Int) (w : World) (h : Rdr.IsRow .u8 w a len cap zs) :
    Calls Try.prog 12 #[.slice a len cap] w fun e w' => (∃ s t : ByteArray, e = .returned (.tuple #[.string s, .string t]) ∧ s.size ≤ 60 ∧ t.size ≤ 60) ∧ Below w.heap.size w w' := by
  obtain ⟨i0, hi, hz0, hz1, hz2⟩ := Rowb.info_parts info5
  have H : Hid (Rdr.IsRow .u8 w a len cap zs) := h
  clear h
  go_enter Try.func12, Try.ntmps12
  go_wp2_with fail
  refine (Rdr.open_any _ _ _ _ _ H.out).mono ?_
  rintro e w1 ⟨rfl, hr, hb⟩
  have S0 : Hid (St w1 w.heap.size (w1.alloc (.cells #[] 5)) (.slice (some ⟨w1.heap.size, 0, none⟩) 0 0) []) := St.new hr
  have B1 : Hid (Below w.heap.size w w1) := hb
  clear hr hb H
  go_wp2_with fail
  refine (Rdr.below_any _ _ _ S0.out.1 (by decide) (by decide)).mono ?_
  rintro e w2 ⟨⟨x, x0, x1, rfl⟩, hp2⟩
  have S2 : Hid (St w1 w.heap.size w2 (.slice (some ⟨w1.heap.size, 0, none⟩) 0 0) []) := S0.out.post hp2
  clear hp2 S0
  obtain ⟨rb, hrb⟩ : ∃ rb, rb = w.heap.size := ⟨_, rfl⟩
  have HR : Hid (rb = w.heap.size) := hrb
  rw [← hrb] at S2 ⊢
  clear hrb
  obtain ⟨k0, rfl⟩ := Int.eq_ofNat_of_zero_le x0
  go_wp2_with fail
  go_loopw [5, 6] (fun v i wr => ∃ (k : Nat) (g : Nat) (n c : Nat) (L : List UInt8), k ≤ 30 ∧ i = .int .i64 k ∧ v = .slice (some ⟨g, 0, none⟩) n c ∧ n + k ≤ 30 ∧ Hid (n = L.length) ∧ Hid (St w1 rb wr (.slice (some ⟨g, 0, none⟩) n c) L)) (fun _ i _ => (intOf i).toNat)
  case atStart => exact ⟨k0, _, _, _, [], by omega, rfl, rfl, by omega, rfl, S2.out⟩
  case round =>
    clear S2
    obtain ⟨k, g, n, c, L, hk, rfl, rfl, hn, HN, hst⟩ := hrel
    by_cases hlt : 0 < k
    · have hlt' : (0 : Int) < (k : Int) := by omega
      go_wp2_with fail
      refine (Rdr.below_any _ _ _ hst.out.1 (by decide) (by decide)).mono ?_
      rintro e w3 ⟨⟨x, y0, y1, rfl⟩, hp3⟩
      have S3 : Hid (St w1 rb w3 (.slice (some ⟨g, 0, none⟩) n c) L) := hst.out.post hp3
      clear hp3 hst
      obtain ⟨b, hb⟩ : ∃ b : UInt8, (b.toNat : Int) = x := ⟨UInt8.ofNat x.toNat, by rw [UInt8.toNat_ofNat']; omega⟩
      subst hb
      have hb4 : b.toNat < 256 := b.toNat_lt
      have eu : IntKind.u8.wrap (b.toNat : Int) = (b.toNat : Int) := by rw [IntKind.wrap_u8]; omega
      have hrow := S3.out.row HN.out
      have hbs := S3.out.2.1.size
      go_wp2_with (at_builtin; refine wpList_append_own _ rfl _ _ tO rfl w1.heap.size 5 i0 (.int .u8 0) 1 1 Try.underlying25 hi hz0 hz1 hz2 rfl (by decide) _ _ _ rfl (hrow.alloc _) ⟨w3.heap.size, 0, none⟩ 1 1 [.int .u8 b.toNat] rfl rfl ?c1 ?c2 ?c3 ?c4 ?c5 ?_)
      case c1 =>
        intro j u hj
        match j, hj with
        | 0, hj => simp at hj; subst hj; simp [Addr.add]
      case c2 => intro u hu; simp at hu; subst hu; rfl
      case c3 => unfold maxLen; omega
      case c4 => omega
      case c5 => simp; omega
      intro v' w6 hown' hgrow _
      have S6 : Hid (St w1 rb w6 v' (L ++ [b])) := S3.out.push HN.out hown' hgrow
      obtain ⟨g', cap', rfl⟩ := ownsRow_succ hown'
      have HN6 : Hid (n + 1 = (L ++ [b]).length) := by show _ = _; rw [List.length_append, HN.out]; rfl
      clear hown' hgrow hrow
      go_wp2
      go_roundw
      case rel => exact ⟨k - 1, _, _, _, _, by omega, by congr 1; omega, rfl, by omega, HN6.out, S6.out⟩
      case measure => simp [intOf]; omega
    · have e0 : k = 0 := by omega
      subst e0
      have hlt' : ¬ (0 : Int) < ((0 : Nat) : Int) := by omega
      have hrow := hst.out.row HN.out
      have hown0 := World.ownsRow_lit (base := wr.heap.size) (e := 5) (size := 1) wr #[] 0 (Nat.le_refl _) (Nat.zero_le _) rfl
      go_wp2_with (at_builtin; refine wpList_append_own _ rfl _ _ tO rfl wr.heap.size 5 i0 (.int .u8 0) 1 1 Try.underlying25 hi hz0 hz1 hz2 rfl (by decide) _ _ _ rfl hown0 ⟨g, 0, none⟩ n c (Lib.byteCells L) rfl hrow.1 ?c1 ?c2 ?c3 ?c4 ?c5 ?_)
      case c1 =>
        intro j u hj
        have := (hrow.alloc (.cells #[] 5)).cells (g := g) rfl j u hj
        rw [show (⟨g, 0, none⟩ : Addr).add j = ⟨g, j, none⟩ by unfold Addr.add; split <;> simp_all] at this
        exact this
      case c2 =>
        intro u hu
        obtain ⟨x, _, rfl⟩ := List.mem_map.1 hu
        rfl
      case c3 => unfold maxLen; omega
      case c4 => omega
      intro v' w6 hown' hgrow hnil
      have hown6 : w6.ownsRow wr.heap.size 5 1 v' n (Lib.byteCells L) := by first | exact hown' | (rw [Nat.zero_add] at hown'; exact hown')
      have S6 : Hid (St wr rb w6 v' L) := St.copied HN.out hst.out.1 hown6 hgrow
      obtain ⟨gb, cb, rfl⟩ : ∃ gb cb, v' = .slice (some ⟨gb, 0, none⟩) n cb := by
        rcases hown6.2 with ⟨h, _⟩ | ⟨gb, cb, _, rfl, _⟩
        · exact absurd h hnil
        · exact ⟨_, _, rfl⟩
      have A0 : Hid (St w1 rb wr (.slice (some ⟨g, 0, none⟩) n c) L) := hst.out
      have BR : Hid (Below w.heap.size w wr) := by have := hst.out; rw [HR.out] at this; exact this.below B1.out
      clear hown' hown6 hgrow hnil hrow hown0 hst
      obtain ⟨wB, hwB⟩ : ∃ x, x = wr := ⟨_, rfl⟩
      subst hwB
      go_wp2_with fail
      refine (Rdr.below_any _ _ _ S6.out.1 (by decide) (by decide)).mono ?_
      rintro e w7 ⟨⟨x, u0, u1, rfl⟩, hp7⟩
      have S7 : Hid (St wB rb w7 (.slice (some ⟨gb, 0, none⟩) n cb) L) := S6.out.post hp7
      clear hp7 S6
      obtain ⟨k5, rfl⟩ := Int.eq_ofNat_of_zero_le u0
      go_wp2_with fail
      go_loopw [8] (fun i wq => ∃ (k : Nat) (M : List UInt8), k ≤ 5 ∧ i = .int .i64 k ∧ Hid (n = M.length) ∧ Hid (St wB rb wq (.slice (some ⟨gb, 0, none⟩) n cb) M)) (fun i _ => (intOf i).toNat)
      case atStart => exact ⟨k5, L, by omega, rfl, HN.out, S7.out⟩
      case round =>
        clear S7
        obtain ⟨k, M, hk5, rfl, HM, hst⟩ := hrel
        by_cases hgo : 0 < k ∧ 0 < n
        · have h1' : (0 : Int) < (k : Int) := by omega
          have h2' : (0 : Int) < (n : Int) := by omega
          have e1 := decide_eq_true h1'
          have e2 := decide_eq_true h2'
          go_wp2_with fail
          refine (Rdr.below_any _ _ _ hst.out.1 (by omega) (by omega)).mono ?_
          rintro e w8 ⟨⟨x, x0, x1, rfl⟩, hp8⟩
          have S8 : Hid (St wB rb w8 (.slice (some ⟨gb, 0, none⟩) n cb) M) := hst.out.post hp8
          clear hp8 hst
          obtain ⟨j, rfl⟩ := Int.eq_ofNat_of_zero_le x0
          go_wp2_with fail
          refine (Rdr.below_any _ _ _ S8.out.1 (by decide) (by decide)).mono ?_
          rintro e w9 ⟨⟨x, y0, y1, rfl⟩, hp9⟩
          have S9 : Hid (St wB rb w9 (.slice (some ⟨gb, 0, none⟩) n cb) M) := S8.out.post hp9
          clear hp9 S8
          obtain ⟨b, hb⟩ : ∃ b : UInt8, (b.toNat : Int) = x := ⟨UInt8.ofNat x.toNat, by rw [UInt8.toNat_ofNat']; omega⟩
          subst hb
          have hb4 : b.toNat < 256 := b.toNat_lt
          have eu : IntKind.u8.wrap (b.toNat : Int) = (b.toNat : Int) := by rw [IntKind.wrap_u8]; omega
          have hrow := S9.out.row HM.out
          have hfz := hrow.frozenAt j
          have hcl := hrow.cellAt j (by omega)
          have hml : (Lib.byteCells M).length = n := by simpa using hrow.1
          rw [List.getElem?_eq_getElem (by omega)] at hcl
          have SP : Hid (St wB rb (w9.setCell ⟨gb, j, none⟩ (.int .u8 b.toNat)) (.slice (some ⟨gb, 0, none⟩) n cb) (M.set j b)) := S9.out.put HM.out j b
          have HMP : Hid (n = (M.set j b).length) := by show _ = _; rw [List.length_set]; exact HM.out
          have jn : (j : Int) < (n : Int) := by omega
          have j0 : (0 : Int) ≤ (j : Int) := by omega
          clear hrow S9
          go_wp2
          go_roundw
          case rel => exact ⟨k - 1, _, by omega, by congr 1; omega, HMP.out, SP.out⟩
          case measure => simp [intOf]; omega
        · have hno : (decide ((0 : Int) < (k : Int)) = false ∧ ¬ (0 : Int) < (k : Int) ∧ decide (0 < k) = false ∧ k = 0) ∨ (decide ((0 : Int) < (k : Int)) = true ∧ decide ((0 : Int) < (n : Int)) = false ∧ ((0 : Int) < (k : Int)) ∧ (¬ (0 : Int) < (n : Int)) ∧ decide (0 < k) = true ∧ decide (0 < n) = false) := by
            by_cases h : 0 < k
            · exact .inr ⟨decide_eq_true (by omega), decide_eq_false (by omega), by omega, by omega, decide_eq_true (by omega), decide_eq_false (by omega)⟩
            · exact .inl ⟨decide_eq_false (by omega), by omega, decide_eq_false (by omega), by omega⟩
          have CONT : Hid True := trivial
          obtain ⟨m, hm⟩ : ∃ m : Nat, m = n + 1 := ⟨_, rfl⟩
          have em : (n : Int) + 1 = (m : Int) := by omega
          have HMM : Hid (m = n + 1) := hm
          have hm8 : m ≤ 31 := by omega
          clear hm
          have ewm : IntKind.i64.wrap (m : Int) = (m : Int) := by rw [IntKind.wrap_i64]; omega
          have hcap := cap_of (hst.out.row HM.out)
          rcases hno with ⟨d1, d1', d1'', dk⟩ | ⟨d1, d2, d3, d4, d5, d6⟩
          all_goals
            go_wp2_with fail
            refine (Rdr.below_any _ _ _ hst.out.1 (by decide) (by decide)).mono ?_
            rintro e wa ⟨⟨x, x0, x1, rfl⟩, hpa⟩
            have SA : Hid (St wB rb wa (.slice (some ⟨gb, 0, none⟩) n cb) M) := hst.out.post hpa
            clear hpa hst
            by_cases q0 : x = 0
            · subst q0
              go_wp2_with fail
              refine (Rdr.below_any _ _ _ SA.out.1 (by have := HMM.out; omega) (by omega)).mono ?_
              rintro e wb ⟨⟨y, y0, y1, rfl⟩, hpb⟩
              have SB : Hid (St wB rb wb (.slice (some ⟨gb, 0, none⟩) n cb) M) := SA.out.post hpb
              clear hpb SA
              obtain ⟨y, rfl⟩ := Int.eq_ofNat_of_zero_le y0
              have yc : (y : Int) ≤ (cb : Int) := by have := HMM.out; omega
              have ca := str_own (A0.out.under SB.out.drew)
              have cbb := str_pre (SB.out.drew.row HM.out) (y := y) (by have := HM.out; have := HMM.out; omega)
              go_wp2
              go_region_with (fail)
              all_goals go_wp2
              all_goals go_ret2
              all_goals refine ⟨⟨_, _, rfl, ?_, ?_⟩, ?_⟩
              all_goals first
                | (show L.toArray.size ≤ _; rw [List.size_toArray, ← HN.out]; omega)
                | (show (M.take y).toArray.size ≤ _; rw [List.size_toArray, List.length_take]; have := HMM.out; omega)
                | (have := SB.out.drew; rw [HR.out] at this; exact this.below BR.out)
            · by_cases q1 : x = 1
              · subst q1
                go_wp2_with fail
                refine (Rdr.below_any _ _ _ SA.out.1 (by decide) (by decide)).mono ?_
                rintro e wb ⟨⟨x, y0, y1, rfl⟩, hpb⟩
                have SB : Hid (St wB rb wb (.slice (some ⟨gb, 0, none⟩) n cb) M) := SA.out.post hpb
                clear hpb SA
                obtain ⟨b, hb⟩ : ∃ b : UInt8, (b.toNat : Int) = x := ⟨UInt8.ofNat x.toNat, by rw [UInt8.toNat_ofNat']; omega⟩
                subst hb
                have hb4 : b.toNat < 256 := b.toNat_lt
                have eu : IntKind.u8.wrap (b.toNat : Int) = (b.toNat : Int) := by rw [IntKind.wrap_u8]; omega
                have hrow := SB.out.row HM.out
                have hbs := SB.out.2.1.size
                go_wp2_with (at_builtin; go_loud (refine wpList_append_own _ rfl _ _ tO rfl wB.heap.size 5 i0 (.int .u8 0) 1 1 Try.underlying25 hi hz0 hz1 hz2 rfl (by decide) _ _ _ rfl (hrow.alloc _) ⟨wb.heap.size, 0, none⟩ 2 2 [.int .u8 b.toNat, .int .u8 0] rfl rfl ?k1 ?k2 ?k3 ?k4 ?k5 ?_))
                case k1 =>
                  intro j u hj
                  match j, hj with
                  | 0, hj => simp at hj; subst hj; simp [Addr.add]
                  | 1, hj => simp at hj; subst hj; simp [Addr.add]
                case k2 => intro u hu; simp at hu; rcases hu with rfl | rfl <;> rfl
                case k3 => unfold maxLen; omega
                case k4 => omega
                case k5 => simp; omega
                intro v' w6 hown' hgrow _
                have S6 : Hid (St wB rb w6 v' (M ++ [b, 0])) := SB.out.pushs HM.out hown' hgrow
                obtain ⟨g', cap', rfl⟩ := ownsRow_succ hown'
                have ca := str_own (A0.out.under S6.out.drew)
                have cbb := str_own (S6.out.drew.2.2.2)
                clear hown' hgrow hrow
                go_wp2
                go_region_with (fail)
                all_goals go_wp2
                all_goals go_ret2
                all_goals refine ⟨⟨_, _, rfl, ?_, ?_⟩, ?_⟩
                all_goals first
                  | (show L.toArray.size ≤ _; rw [List.size_toArray, ← HN.out]; omega)
                  | (show (M ++ [b, 0]).toArray.size ≤ _; rw [List.size_toArray, List.length_append, ← HM.out]; simp; omega)
                  | (have := S6.out.drew; rw [HR.out] at this; exact this.below BR.out)
              · have f0 : (x == 0) = false := by simp [q0]
                have f1 : (x == 1) = false := by simp [q1]
                have ca := str_own (A0.out.under SA.out.drew)
                have cbb := str_own (SA.out.drew.2.2.2)
                go_wp2
                go_region_with (fail)
                all_goals go_wp2
                all_goals go_ret2
                all_goals refine ⟨⟨_, _, rfl, ?_, ?_⟩, ?_⟩
                all_goals first
                  | (show L.toArray.size ≤ _; rw [List.size_toArray, ← HN.out]; omega)
                  | (show M.toArray.size ≤ _; rw [List.size_toArray, ← HM.out]; omega)
                  | (have := SA.out.drew; rw [HR.out] at this; exact this.below BR.out)
open Difp in
theorem body_le (a b : ByteArray) : ∀ f k, b.size ≤ k + f → (body (Pieces a b k)).length ≤ 6 * (b.size - k)
  | 0, k, h => by rw [pieces_end (by omega)]; exact Nat.zero_le _
  | f + 1, k, h => by
    by_cases hk : k < b.size
    · by_cases h0 : gap a b k = 0
      · rw [pieces_skip hk h0]; have := body_le a b f (k + 1) (by omega); omega
      · obtain ⟨g1, _, _⟩ := gap_spec (a := a) (b := b) (k := k) (by omega)
        rw [pieces_one hk h0]
        have := body_le a b f (k + gap a b k + 1) (by omega)
        unfold body at *
        rw [List.flatMap_cons, List.length_append, enc_len, ByteArray.size_extract]
        omega
    · rw [pieces_end hk]; exact Nat.zero_le _
open Difp in
theorem out_le (a b : ByteArray) : (outV a b).size ≤ 10 + 6 * b.size := by
  by_cases h : okAB a b
  · rw [(out_yes h).1]
    show (diffL a b).toArray.size ≤ _
    rw [List.size_toArray]
    have := body_le a b b.size 0 (by omega)
    unfold diffL
    simp only [List.length_append, List.length_cons, List.length_nil, n3]
    omega
  · rw [(out_no h).1]; exact Nat.zero_le _
set_option maxHeartbeats 2000000 in
theorem drawApplied_any (a : Option Addr) (len cap : Nat) (zs : List Int) (w : World) (h : Rdr.IsRow .u8 w a len cap zs) :
    Calls Try.prog 13 #[.slice a len cap] w fun e w' => (∃ s t : ByteArray, e = .returned (.tuple #[.string s, .string t]) ∧ s.size ≤ 60 ∧ t.size ≤ 500) ∧ Below w.heap.size w w' := by
  have H : Hid (Rdr.IsRow .u8 w a len cap zs) := h
  clear h
  go_enter Try.func13, Try.ntmps13
  go_wp2_with fail
  refine (Rdr.open_any _ _ _ _ _ H.out).mono ?_
  rintro e w1 ⟨rfl, hr, hb⟩
  have R1 : Hid (Rd w1 w.heap.size) := hr
  have B1 : Hid (Below w.heap.size w w1) := hb
  have H1 : Hid (Rdr.IsRow .u8 w1 a len cap zs) := H.out.below hb
  clear hr hb H
  go_wp2_with fail
  refine (drawDiff_any _ _ _ _ _ H1.out).mono ?_
  rintro e w2 ⟨⟨s, t, rfl, hs, ht⟩, hb2⟩
  have R2 : Hid (Rd w2 w.heap.size) := R1.out.kept (fun k hk => hb2.block k (by have := R1.out.lt; omega))
  have B2 : Hid (Below w.heap.size w w2) := B1.out.trans (hb2.mono B1.out.size)
  clear hb2 R1 B1 H1
  go_wp2_with fail
  refine (Difs.specDiff_any s t _ (by omega) (by omega)).mono ?_
  rintro e w3 ⟨rfl, hb3⟩
  have R3 : Hid (Rd w3 w.heap.size) := R2.out.kept (fun k hk => hb3.block k (by have := R2.out.lt; omega))
  have B3 : Hid (Below w.heap.size w w3) := B2.out.trans (hb3.mono B2.out.size)
  clear hb3 R2 B2
  have hz := out_le s t
  generalize Difp.outV s t = d at *
  generalize Difp.outB s t = pb at *
  go_wp2_with fail
  refine (Rdr.once_any _ _ _ R3.out (by decide) (by decide)).mono ?_
  rintro e w4 ⟨⟨o, rfl⟩, hp4⟩
  have B4 : Hid (Below w.heap.size w w4) := B3.out.trans (hp4.below (Nat.le_refl _) (Nat.le_of_lt R3.out.lt))
  have R4 : Hid (Rd w4 w.heap.size) := hp4.1
  clear hp4 B3 R3
  cases o with
  | false =>
    go_wp2
    go_ret2
    exact ⟨⟨s, d, rfl, by omega, by omega⟩, B4.out⟩
  | true =>
    go_wp2_with fail
    refine (Draw.hurt_any _ _ _ R4.out (by omega)).mono ?_
    rintro e w5 ⟨⟨u, hu, rfl⟩, hp5⟩
    have B5 : Hid (Below w.heap.size w w5) := B4.out.trans (hp5.below (Nat.le_refl _) (Nat.le_of_lt R4.out.lt))
    clear hp5
    go_wp2
    go_ret2
    exact ⟨⟨s, u, rfl, by omega, by omega⟩, B5.out⟩
end Go.Proofs.Ytbfjalpkdgepnaa.DrawD
