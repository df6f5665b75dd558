/-
  Contracts of ours for the laws' own helpers over pairs: sizes, the mirror's pairs as the program's, equality; and a row of pairs that came in, opened.
-/
import Derived.Test.YtjhacbkmoepffaaSigned
import Derived.ShutString
import Derived.Outline
import Derived.WalkLawsBesides
import Derived.BigQuiet
import Derived.Deep.Strs
import Derived.Deep.RegionWith
namespace Go.Proofs.Ytjhacbkmoepffaa.Pairr
open Go.ChangeShapes Go.WideShapes Go.ChangeAt Go.RowKit Go.Deep
set_option maxRecDepth 20000

abbrev Pair := ByteArray × Int
/-- A row of pairs lies there. -/
def Pairs (w : World) (a : Option Addr) (L : List Pair) : Prop :=
  L = [] ∨ ∃ b off, a = some ⟨b, off, none⟩ ∧ b < w.heap.size ∧ ∀ i (h : i < L.length), w.cell? ⟨b, off + i * 2, none⟩ = some (.string L[i].1) ∧ w.cell? ⟨b, off + i * 2 + 1, none⟩ = some (.int .i64 L[i].2) ∧ L[i].1.size ≤ maxLen

theorem cellsY : Try.prog.cellsOf 36 = 2 := by kernel_rfl
theorem cells2 : Try.prog.cellsOf 2 = 1 := by kernel_rfl
theorem cells9 : Try.prog.cellsOf 9 = 1 := by kernel_rfl
theorem fieldsY : ∃ f0 f1 : Field, Try.prog.underlying 36 = some (.struct #[f0, f1]) ∧ f0.type = 9 ∧ f0.offset = 0 ∧ f1.type = 2 ∧ f1.offset = 1 := ⟨_, _, Try.underlying36, rfl, rfl, rfl, rfl⟩

theorem pairs_of {H : Type} {enc : TypeId × Value → H} {w : World} {base : Nat} {spare : Nat → Bool} {held : Bool} {fuel : Nat} {cs : List Value} {x : DataW H × List MemPlace}
    (h : DataW.trod enc Try.prog w base spare held fuel 22 cs = some x) : ∃ a len cap L, cs = [.slice a len cap] ∧ L.length = len ∧ len ≤ maxLen ∧ Pairs w a L := by
  rcases open_slice Try.underlying22 h with ⟨rfl, _⟩ | ⟨a, len, cap, m, n, D, Pl, rfl, hb, hl, hm, hmm, rfl, hx⟩
  · exact ⟨none, 0, 0, [], rfl, rfl, Nat.zero_le _, .inl rfl⟩
  have hlm : len ≤ m := by rw [hmm]; split <;> omega
  obtain ⟨f0, f1, hf, t0, o0, t1, o1⟩ := fieldsY
  have each : ∀ i, i < len → ∃ q : Pair, w.cell? (a.add (i * 2)) = some (.string q.1) ∧ w.cell? (a.add (i * 2 + 1)) = some (.int .i64 q.2) ∧ q.1.size ≤ maxLen := by
    intro i hi
    obtain ⟨cs', h1, h2⟩ := hx i (by omega)
    rw [cellsY] at h1
    obtain ⟨_, hlen, hcell⟩ := World.cells?_some h1
    obtain ⟨y0, y1, k, _, _, g0, g1⟩ := trod_struct2 hf h2
    match cs', hlen with
    | [v0, v1], _ =>
      rw [t0, o0, cells9] at g0
      rw [t1, o1, cells2] at g1
      obtain ⟨s, e0, _, hs⟩ := DataW.trod_string Try.underlying9 g0
      obtain ⟨n1, e1, _⟩ := DataW.trod_int Try.underlying2 g1
      simp at e0 e1
      subst e0 e1
      have d0 := hcell 0 (by omega)
      have d1 := hcell 1 (by omega)
      rw [add_add] at d0 d1
      exact ⟨(s, n1), by simpa using d0, by simpa using d1, hs⟩
  obtain ⟨q, hq⟩ := choose_lt each
  refine ⟨some a, len, cap, (List.range len).map q, rfl, by simp, by omega, ?_⟩
  by_cases h0 : len = 0
  · subst h0; exact .inl rfl
  obtain ⟨b, off, spot⟩ := a
  have c0 := (hq 0 (by omega)).1
  have hspot : spot = none := by simpa [Addr.add] using World.cell?_spot c0
  subst hspot
  have e : ∀ i, (⟨b, off, none⟩ : Addr).add i = ⟨b, off + i, none⟩ := fun i => by unfold Addr.add; split <;> simp_all
  refine .inr ⟨b, off, rfl, World.block_lt_of_cell? w ⟨b, off, none⟩ (by simpa [Addr.add] using c0), fun i hi => ?_⟩
  have hi' : i < len := by simpa using hi
  obtain ⟨d0, d1, d3⟩ := hq i hi'
  rw [e] at d0 d1
  simp only [List.getElem_map, List.getElem_range]
  exact ⟨d0, by rw [Nat.add_assoc]; exact d1, d3⟩

theorem Pairs.below {w w' : World} {a : Option Addr} {L : List Pair} (h : Pairs w a L) (hb : Below w.heap.size w w') : Pairs w' a L := by
  rcases h with h | ⟨b, off, ha, hl, hc⟩
  · exact .inl h
  · refine .inr ⟨b, off, ha, Nat.lt_of_lt_of_le hl hb.size, fun i hi => ?_⟩
    obtain ⟨d0, d1, d3⟩ := hc i hi
    exact ⟨(hb.cell (p := ⟨b, _, none⟩) hl).trans d0, (hb.cell (p := ⟨b, _, none⟩) hl).trans d1, d3⟩

def left (m : Int) (s : ByteArray) : Int := if m - s.size < 0 then -1 else m - s.size
theorem szPair_any (k m : Int) (s : ByteArray) (w : World) (hs : s.size ≤ maxLen) (h0 : 0 ≤ m) (h1 : m ≤ 1048576) :
    Calls Try.prog 12 #[.agg #[.string s, .int .i64 k], .int .i64 m] w fun e w' => e = .returned (.int .i64 (left m s)) ∧ Below w.heap.size w w' := by
  unfold maxLen at hs
  by_cases h : m - s.size < 0
  · have e : left m s = -1 := if_pos h
    rw [e]
    clear e
    go_enter Try.func12, Try.ntmps12
    go_wp2
    go_ret
    exact ⟨rfl, (Below.refl _ _).alloc (Nat.le_refl _) _⟩
  · have e : left m s = m - s.size := if_neg h
    rw [e]
    clear e
    go_enter Try.func12, Try.ntmps12
    go_wp2
    go_ret
    exact ⟨rfl, (Below.refl _ _).alloc (Nat.le_refl _) _⟩

set_option maxHeartbeats 1000000 in
theorem szPairS_any (a : Option Addr) (cap : Nat) (L : List Pair) (w : World) (hN : Pairs w a L) (hlen : L.length ≤ maxLen) :
    Calls Try.prog 5 #[.slice a L.length cap, .int .i64 1048576] w fun e w' => (∃ x : Int, e = .returned (.int .i64 x) ∧ (x < 0 ∨ (0 ≤ x ∧ L.length ≤ 1048576))) ∧ Below w.heap.size w w' := by
  unfold maxLen at hlen
  obtain ⟨len, hl⟩ : ∃ len, len = L.length := ⟨_, rfl⟩
  have HL : Hid (len = L.length) := hl
  rw [← hl] at hlen ⊢
  clear hl
  by_cases hbig : 1048576 < len
  · clear hN
    go_enter Try.func5, Try.ntmps5
    go_wp2
    go_ret
    exact ⟨⟨-1, rfl, .inl (by decide)⟩, Below.refl _ _⟩
  go_enter Try.func5, Try.ntmps5
  go_wp2
  go_loopw [1, 5] (fun v i wr => ∃ (k : Nat) (m : Int), k ≤ len ∧ 0 ≤ m ∧ m ≤ 1048576 ∧ i = .int .i64 k ∧ v = .int .i64 m ∧ Hid (Below w.heap.size w wr)) (fun _ i _ => len - (intOf i).toNat)
  case atStart => exact ⟨0, _, Nat.zero_le _, by omega, by omega, rfl, rfl, Below.refl _ _⟩
  case round =>
    obtain ⟨k, m, hk, hm0, hm1, rfl, rfl, hbel⟩ := hrel
    by_cases hlt : k < len
    · have hkL : k < L.length := by have := HL.out; omega
      rcases hN with hnil | ⟨b, off, rfl, hb, hc⟩
      · exfalso; rw [hnil] at hkL; exact absurd hkL (by simp)
      obtain ⟨c0, c1, hsz⟩ : wr.cell? ⟨b, off + k * 2, none⟩ = some (.string L[k].1) ∧ wr.cell? ⟨b, off + k * 2 + 1, none⟩ = some (.int .i64 L[k].2) ∧ L[k].1.size ≤ maxLen := by
        obtain ⟨d0, d1, d3⟩ := hc k hkL
        exact ⟨(hbel.out.cell (p := ⟨b, _, none⟩) hb).trans d0, (hbel.out.cell (p := ⟨b, _, none⟩) hb).trans d1, d3⟩
      clear hc
      obtain ⟨s, kd, hnode⟩ : ∃ s kd, L[k] = (s, kd) := ⟨_, _, rfl⟩
      rw [hnode] at c0 c1 hsz
      simp only at c0 c1 hsz
      clear hnode
      have cs := fun W => szPair_any kd m s W hsz hm0 hm1
      have hq : left m s = -1 ∨ (0 ≤ left m s ∧ left m s ≤ 1048576) := by
        unfold left; by_cases h : m - s.size < 0
        · rw [if_pos h]; exact .inl rfl
        · rw [if_neg h]; omega
      generalize left m s = q at cs hq
      go_wp2_with fail
      refine (cs _).mono ?_
      rintro e w1 ⟨rfl, hb1⟩
      have bel1 : Hid (Below w.heap.size w w1) := hbel.out.trans (hb1.mono hbel.out.size)
      clear hb1 hbel
      rcases hq with rfl | ⟨q0, q1⟩
      · go_wp2
        go_ret
        exact ⟨⟨-1, rfl, .inl (by decide)⟩, bel1.out⟩
      · go_wp2
        go_roundw
        case rel => exact ⟨k + 1, q, by omega, q0, q1, by go_num, rfl, bel1.out⟩
        case measure => simp [intOf]; omega
    · clear hN
      go_wp2
      go_ret
      exact ⟨⟨m, rfl, .inr ⟨hm0, by omega⟩⟩, hbel.out⟩

theorem toPair_any (k : Int) (s : ByteArray) (w : World) :
    Calls Try.prog 14 #[.agg #[.string s, .int .i64 k]] w fun e w' => e = .returned (.agg #[.string s, .int .i64 k]) ∧ Below w.heap.size w w' := by
  go_enter Try.func14, Try.ntmps14
  go_wp2
  exact bodyPost_ret (v := .agg #[.string s, .int .i64 k]) (by simp [results, Try.results14, go_sem]) rfl ⟨rfl, (((Below.refl _ _).alloc (Nat.le_refl _) _).alloc (by simp) _).alloc (by simp; omega) _⟩

/-- The first k nodes lie in the new block; the rest of it can be written. -/
def Part (W : World) (B len : Nat) (L : List Pair) (k : Nat) : Prop :=
  (∀ i (h : i < L.length), i < k → W.cell? ⟨B, i * 2, none⟩ = some (.string L[i].1) ∧ W.cell? ⟨B, i * 2 + 1, none⟩ = some (.int .i64 L[i].2)) ∧
  (∀ j, j < len * 2 → ∃ u, W.cell? ⟨B, j, none⟩ = some u) ∧ (∀ j, W.frozen? ⟨B, j, none⟩ = false) ∧ B < W.heap.size
theorem Part.kept {W W' : World} {B len k : Nat} {L : List Pair} (h : Part W B len L k) (hb : W'.heap[B]? = W.heap[B]?) (hs : W.heap.size ≤ W'.heap.size) : Part W' B len L k := by
  have e : ∀ o, W'.cell? ⟨B, o, none⟩ = W.cell? ⟨B, o, none⟩ := fun o => World.cell?_of_block (a := ⟨B, o, none⟩) hb
  have f : ∀ o, W'.frozen? ⟨B, o, none⟩ = W.frozen? ⟨B, o, none⟩ := fun o => World.frozen?_of_block (a := ⟨B, o, none⟩) hb
  refine ⟨fun i hi hk => ?_, fun j hj => ?_, fun j => ?_, Nat.lt_of_lt_of_le h.2.2.2 hs⟩
  · rw [e, e]; exact h.1 i hi hk
  · rw [e]; exact h.2.1 j hj
  · rw [f]; exact h.2.2.1 j
theorem Part.set {W : World} {B len k o : Nat} {L : List Pair} (h : Part W B len L k) (ho : k * 2 ≤ o) (v : Value) : Part (W.setCell ⟨B, o, none⟩ v) B len L k := by
  have ne : ∀ i, i ≠ o → (W.setCell ⟨B, o, none⟩ v).cell? ⟨B, i, none⟩ = W.cell? ⟨B, i, none⟩ := fun i hi => World.cell?_setCell_other W _ _ _ (fun e => hi (by have := congrArg Addr.off e; exact this.symm))
  refine ⟨fun i hi hk => ?_, fun j hj => ?_, fun j => ?_, ?_⟩
  · rw [ne _ (by omega), ne _ (by omega)]; exact h.1 i hi hk
  · by_cases e : j = o
    · subst e
      obtain ⟨u, hu⟩ := h.2.1 j hj
      exact ⟨v, World.cell?_setCell_same W _ _ hu⟩
    · rw [ne j e]; exact h.2.1 j hj
  · rw [World.frozen?_setCell]; exact h.2.2.1 j
  · have := h.2.2.2; simpa [World.setCell] using this
theorem Part.store {W : World} {B len k : Nat} {L : List Pair} (h : Part W B len L k) (hk : k < len) (hl : len = L.length) (hkL : k < L.length) :
    Part ((W.setCell ⟨B, k * 2, none⟩ (.string L[k].1)).setCell ⟨B, k * 2 + 1, none⟩ (.int .i64 L[k].2)) B len L (k + 1) := by
  have h1 := h.set (o := k * 2) (Nat.le_refl _) (.string L[k].1)
  have h2 := h1.set (o := k * 2 + 1) (by omega) (.int .i64 L[k].2)
  refine ⟨fun i hi hik => ?_, h2.2.1, h2.2.2.1, h2.2.2.2⟩
  by_cases e : i = k
  · subst e
    obtain ⟨u0, hu0⟩ := h.2.1 (i * 2) (by omega)
    obtain ⟨u1, hu1⟩ := h1.2.1 (i * 2 + 1) (by omega)
    refine ⟨?_, World.cell?_setCell_same _ _ _ hu1⟩
    · rw [World.cell?_setCell_other _ _ _ _ (by simp)]
      exact World.cell?_setCell_same _ _ _ hu0
  · exact h2.1 i hi (by omega)

theorem infoY : (Try.prog.info? 38).map (fun i => (i.zero, i.size, i.bytes)) = some (some (.agg #[.string ⟨#[]⟩, .int .i64 0]), 2, 24) := by kernel_rfl
theorem Part.made (w : World) (len : Nat) (L : List Pair) (z : Array Value) (t : TypeId) : Part (w.alloc (.cells (madeCells z (len * 2)) t)) w.heap.size len L 0 := by
  refine ⟨fun i _ h => absurd h (Nat.not_lt_zero _), fun j hj => ?_, fun j => ?_, by simp⟩
  · rw [World.cell?_alloc_new]
    exact ⟨_, Array.getElem?_eq_getElem (by rw [size_madeCells]; exact hj)⟩
  · exact World.frozen?_alloc_at _ _ _ _ rfl

set_option maxHeartbeats 1000000 in
theorem toPairS_any (a : Option Addr) (cap : Nat) (L : List Pair) (w : World) (hN : Pairs w a L) (hlen : L.length ≤ 1048576) :
    Calls Try.prog 7 #[.slice a L.length cap] w fun e w' => (∃ c : Nat, e = .returned (.slice (some ⟨w.heap.size, 0, none⟩) L.length c) ∧ Pairs w' (some ⟨w.heap.size, 0, none⟩) L) ∧ Below w.heap.size w w' := by
  obtain ⟨i0, hi, hz0, hz1, hz2⟩ := info_parts infoY
  obtain ⟨len, hl⟩ : ∃ len, len = L.length := ⟨_, rfl⟩
  have HL : Hid (len = L.length) := hl
  rw [← hl] at hlen ⊢
  clear hl
  have hmk : ∀ u : World, (Instr.makeSlice 26 (.int .i64 (len : Int)) (.int .i64 (len : Int))).run Try.prog u =
      .ok (.slice (some ⟨u.heap.size, 0, none⟩) len len) (u.alloc (.cells (madeCells #[.string ⟨#[]⟩, .int .i64 0] (len * 2)) 38)) := fun u => by
    have h := run_make (P := Try.prog) u 26 38 i0 (.agg #[.string ⟨#[]⟩, .int .i64 0]) Try.underlying26 hi hz0 .i64 .i64 (len : Int) (len : Int) (by omega) (Int.le_refl _) (by rw [hz2]; omega) (by omega)
    simpa [hz1, Value.cells] using h
  clear hz0 hz1 hz2 hi
  have P0 : Hid (∀ o, Part (w.alloc (.cells (madeCells #[.string ⟨#[]⟩, .int .i64 0] (len * 2)) o)) w.heap.size len L 0) := fun o => Part.made w len L _ o
  go_enter Try.func7, Try.ntmps7
  go_wp2
  go_loopw [4] (fun i wr => ∃ k : Nat, k ≤ len ∧ i = .int .i64 k ∧ Hid (Part wr w.heap.size len L k) ∧ Hid (Below w.heap.size w wr)) (fun i _ => len - (intOf i).toNat)
  case atStart => exact ⟨0, Nat.zero_le _, rfl, P0.out _, (Below.refl _ _).alloc (Nat.le_refl _) _⟩
  case round =>
    obtain ⟨k, hk, rfl, hpart, hbel⟩ := hrel
    by_cases hlt : k < len
    · have hkL : k < L.length := by have := HL.out; omega
      rcases hN with hnil | ⟨b, off, rfl, hb, hc⟩
      · exfalso; rw [hnil] at hkL; exact absurd hkL (by simp)
      obtain ⟨c0, c1⟩ : wr.cell? ⟨b, off + k * 2, none⟩ = some (.string L[k].1) ∧ wr.cell? ⟨b, off + k * 2 + 1, none⟩ = some (.int .i64 L[k].2) := by
        obtain ⟨d0, d1, d3⟩ := hc k hkL
        exact ⟨(hbel.out.cell (p := ⟨b, _, none⟩) hb).trans d0, (hbel.out.cell (p := ⟨b, _, none⟩) hb).trans d1⟩
      clear hc
      have S : Hid (∀ W, Part W w.heap.size len L k → Part ((W.setCell ⟨w.heap.size, k * 2, none⟩ (.string L[k].1)).setCell ⟨w.heap.size, k * 2 + 1, none⟩ (.int .i64 L[k].2)) w.heap.size len L (k + 1)) := fun W h => h.store hlt HL.out hkL
      generalize L[k].1 = s at c0 S
      generalize L[k].2 = kd at c1 S
      go_wp2_with fail
      refine (toPair_any _ _ _).mono ?_
      rintro e w1 ⟨rfl, hb1⟩
      have hp1 : Hid (Part w1 w.heap.size len L k) := hpart.out.kept (hb1.block _ hpart.out.2.2.2) hb1.size
      have bel1 : Hid (Below w.heap.size w w1) := hbel.out.trans (hb1.mono hbel.out.size)
      obtain ⟨u0, x0⟩ := hp1.out.2.1 (k * 2) (by omega)
      obtain ⟨u1, x1⟩ := hp1.out.2.1 (k * 2 + 1) (by omega)
      have f0 := hp1.out.2.2.1 (k * 2)
      have f1 := hp1.out.2.2.1 (k * 2 + 1)
      clear hb1 hbel hpart c0 c1
      go_wp2
      go_roundw
      case rel => exact ⟨k + 1, by omega, by go_num, S.out _ hp1.out, (bel1.out.setCell (Nat.le_refl _) _).setCell (Nat.le_refl _) _⟩
      case measure => simp [intOf]; omega
    · have hz : ∀ i (h : i < L.length), L[i].1.size ≤ maxLen := fun i h => by
        rcases hN with hnil | ⟨b, off, _, _, hc⟩
        · exfalso; rw [hnil] at h; exact absurd h (by simp)
        · exact (hc i h).2.2
      have HZ : Hid (∀ i (h : i < L.length), L[i].1.size ≤ maxLen) := hz
      clear hN hz
      go_wp2
      go_ret
      refine ⟨⟨len, rfl, .inr ⟨w.heap.size, 0, rfl, hpart.out.2.2.2, fun i hi => ?_⟩⟩, hbel.out⟩
      have := hpart.out.1 i hi (by have := HL.out; omega)
      rw [Nat.zero_add]
      exact ⟨this.1, this.2, HZ.out i hi⟩

theorem below_of_drew {w w' : World} (h : Below w.drew.heap.size w.drew w') : Below w.heap.size w w' := ⟨h.os, h.tape, h.output, h.size, h.block⟩
theorem eqPair_any (k : Int) (s : ByteArray) (w : World) :
    Calls Try.prog 20 #[.agg #[.string s, .int .i64 k], .agg #[.string s, .int .i64 k]] w fun e w' => e = .returned (.bool true) ∧ Below w.heap.size w w' := by
  go_enter Try.func20, Try.ntmps20
  go_wp2
  go_ret
  exact ⟨rfl, ((Below.refl _ _).alloc (Nat.le_refl _) _).alloc (by simp) _⟩

set_option maxHeartbeats 1000000 in
theorem eqPairS_any (a a' : Option Addr) (cap cap' : Nat) (L : List Pair) (w : World) (hN : Pairs w a L) (hN' : Pairs w a' L) (hlen : L.length ≤ 1048576) :
    Calls Try.prog 9 #[.slice a L.length cap, .slice a' L.length cap'] w fun e w' => e = .returned (.bool true) ∧ Below w.heap.size w w' := by
  obtain ⟨len, hl⟩ : ∃ len, len = L.length := ⟨_, rfl⟩
  have HL : Hid (len = L.length) := hl
  rw [← hl] at hlen ⊢
  clear hl
  go_enter Try.func9, Try.ntmps9
  go_wp2
  go_loopw [5] (fun i wr => ∃ k : Nat, k ≤ len ∧ i = .int .i64 k ∧ Hid (Below w.heap.size w wr)) (fun i _ => len - (intOf i).toNat)
  case atStart => exact ⟨0, Nat.zero_le _, rfl, Below.refl _ _⟩
  case round =>
    obtain ⟨k, hk, rfl, hbel⟩ := hrel
    by_cases hlt : k < len
    · have hkL : k < L.length := by have := HL.out; omega
      rcases hN with hnil | ⟨b, off, rfl, hb, hc⟩
      · exfalso; rw [hnil] at hkL; exact absurd hkL (by simp)
      rcases hN' with hnil | ⟨b', off', rfl, hb', hc'⟩
      · exfalso; rw [hnil] at hkL; exact absurd hkL (by simp)
      obtain ⟨c0, c1⟩ : wr.cell? ⟨b, off + k * 2, none⟩ = some (.string L[k].1) ∧ wr.cell? ⟨b, off + k * 2 + 1, none⟩ = some (.int .i64 L[k].2) := by
        obtain ⟨d0, d1, d3⟩ := hc k hkL
        exact ⟨(hbel.out.cell (p := ⟨b, _, none⟩) hb).trans d0, (hbel.out.cell (p := ⟨b, _, none⟩) hb).trans d1⟩
      obtain ⟨e0, e1⟩ : wr.cell? ⟨b', off' + k * 2, none⟩ = some (.string L[k].1) ∧ wr.cell? ⟨b', off' + k * 2 + 1, none⟩ = some (.int .i64 L[k].2) := by
        obtain ⟨d0, d1, d3⟩ := hc' k hkL
        exact ⟨(hbel.out.cell (p := ⟨b', _, none⟩) hb').trans d0, (hbel.out.cell (p := ⟨b', _, none⟩) hb').trans d1⟩
      clear hc hc'
      generalize L[k].1 = s at c0 e0
      generalize L[k].2 = kd at c1 e1
      have k0 : (0 : Int) ≤ (k : Int) := by omega
      have k1 : (k : Int) < (len : Int) := by omega
      go_wp2_with fail
      go_region_with (go_at_call 20; refine (eqPair_any _ _ _).mono ?_; rintro e w1 ⟨rfl, hb1⟩)
      all_goals go_wp2
      all_goals
        go_roundw
        case rel => exact ⟨k + 1, by omega, by go_num, hbel.out.trans ((below_of_drew hb1).mono hbel.out.size)⟩
        case measure => simp [intOf]; omega
    · clear hN hN'
      go_wp2
      go_ret
      exact ⟨rfl, hbel.out⟩

end Go.Proofs.Ytjhacbkmoepffaa.Pairr
