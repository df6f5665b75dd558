/-
  Contracts of ours for the laws' own helpers over nodes: sizes, the mirror's nodes as the program's, equality; and a row of nodes that came in, opened.
-/
import Derived.Test.YtplkglgaobdpiaaGreatDoorSpecx
import Derived.Deep.Strs
import Derived.Deep.RegionWith
namespace Go.Proofs.YtplkglgaobdpiaaGreatDoor.Mirror
open Go.ChangeShapes Go.WideShapes Go.ChangeAt Go.RowKit Go.Deep
set_option maxRecDepth 20000
open Go.Proofs.YtplkglgaobdpiaaGreatDoor.Stepx (Nodes)

theorem cellsN : Tryz.prog.cellsOf 152 = 3 := by kernel_rfl
theorem cells2 : Tryz.prog.cellsOf 2 = 1 := by kernel_rfl
theorem cells9 : Tryz.prog.cellsOf 9 = 1 := by kernel_rfl
theorem fieldsN : ∃ f0 f1 f2 : Field, Tryz.prog.underlying 152 = some (.struct #[f0, f1, f2]) ∧ f0.type = 2 ∧ f0.offset = 0 ∧ f1.type = 2 ∧ f1.offset = 1 ∧ f2.type = 9 ∧ f2.offset = 2 := ⟨_, _, _, Tryz.underlying152, rfl, rfl, rfl, rfl, rfl, rfl⟩

theorem nodes_of {H : Type} {enc : TypeId × Value → H} {w : World} {base : Nat} {spare : Nat → Bool} {held : Bool} {fuel : Nat} {cs : List Value} {x : DataW H × List MemPlace}
    (h : DataW.trod enc Tryz.prog w base spare held fuel 106 cs = some x) : ∃ a len cap L, cs = [.slice a len cap] ∧ L.length = len ∧ len ≤ maxLen ∧ Nodes w a L := by
  rcases open_slice Tryz.underlying106 h with ⟨rfl, _⟩ | ⟨a, len, cap, m, n, D, Pl, rfl, hb, hl, hm, hmm, rfl, hx⟩
  · exact ⟨none, 0, 0, [], rfl, rfl, Nat.zero_le _, .inl rfl⟩
  have hlm : len ≤ m := by rw [hmm]; split <;> omega
  obtain ⟨f0, f1, f2, hf, t0, o0, t1, o1, t2, o2⟩ := fieldsN
  have each : ∀ i, i < len → ∃ q : Stepx.Node, w.cell? (a.add (i * 3)) = some (.int .i64 q.1) ∧ w.cell? (a.add (i * 3 + 1)) = some (.int .i64 q.2.1) ∧ w.cell? (a.add (i * 3 + 2)) = some (.string q.2.2) ∧ q.2.2.size ≤ maxLen := by
    intro i hi
    obtain ⟨cs', h1, h2⟩ := hx i (by omega)
    rw [cellsN] at h1
    obtain ⟨_, hlen, hcell⟩ := World.cells?_some h1
    obtain ⟨y0, y1, y2, k, _, _, g0, g1, g2⟩ := trod_struct3 hf h2
    match cs', hlen with
    | [v0, v1, v2], _ =>
      rw [t0, o0, cells2] at g0
      rw [t1, o1, cells2] at g1
      rw [t2, o2, cells9] at g2
      obtain ⟨n0, e0, _⟩ := DataW.trod_int Tryz.underlying2 g0
      obtain ⟨n1, e1, _⟩ := DataW.trod_int Tryz.underlying2 g1
      obtain ⟨s, e2, _, hs⟩ := DataW.trod_string Tryz.underlying9 g2
      simp at e0 e1 e2
      subst e0 e1 e2
      have d0 := hcell 0 (by omega)
      have d1 := hcell 1 (by omega)
      have d2 := hcell 2 (by omega)
      rw [add_add] at d0 d1 d2
      exact ⟨(n0, n1, s), by simpa using d0, by simpa using d1, by simpa using d2, hs⟩
  obtain ⟨q, hq⟩ := choose_lt each
  refine ⟨some a, len, cap, (List.range len).map q, rfl, by simp, by omega, ?_⟩
  by_cases h0 : len = 0
  · subst h0; exact .inl rfl
  obtain ⟨b, off, spot⟩ := a
  have c0 := (hq 0 (by omega)).1
  have hspot : spot = none := by simpa [Addr.add] using World.cell?_spot c0
  subst hspot
  have e : ∀ i, (⟨b, off, none⟩ : Addr).add i = ⟨b, off + i, none⟩ := fun i => by unfold Addr.add; split <;> simp_all
  refine .inr ⟨b, off, rfl, World.block_lt_of_cell? w ⟨b, off, none⟩ (by simpa [Addr.add] using c0), fun i hi => ?_⟩
  have hi' : i < len := by simpa using hi
  obtain ⟨d0, d1, d2, d3⟩ := hq i hi'
  rw [e] at d0 d1 d2
  simp only [List.getElem_map, List.getElem_range]
  exact ⟨d0, by rw [Nat.add_assoc]; exact d1, by rw [Nat.add_assoc]; exact d2, d3⟩

theorem Nodes.below {w w' : World} {a : Option Addr} {L : List Stepx.Node} (h : Nodes w a L) (hb : Below w.heap.size w w') : Nodes w' a L := by
  rcases h with h | ⟨b, off, ha, hl, hc⟩
  · exact .inl h
  · refine .inr ⟨b, off, ha, Nat.lt_of_lt_of_le hl hb.size, fun i hi => ?_⟩
    obtain ⟨d0, d1, d2, d3⟩ := hc i hi
    exact ⟨(hb.cell (p := ⟨b, _, none⟩) hl).trans d0, (hb.cell (p := ⟨b, _, none⟩) hl).trans d1, (hb.cell (p := ⟨b, _, none⟩) hl).trans d2, d3⟩

def left (m : Int) (s : ByteArray) : Int := if m - s.size < 0 then -1 else m - s.size
theorem szENode_any (k n m : Int) (s : ByteArray) (w : World) (hs : s.size ≤ maxLen) (h0 : 0 ≤ m) (h1 : m ≤ 1048576) :
    Calls Tryz.prog 114 #[.agg #[.int .i64 k, .int .i64 n, .string s], .int .i64 m] w fun e w' => e = .returned (.int .i64 (left m s)) ∧ Below w.heap.size w w' := by
  unfold maxLen at hs
  by_cases h : m - s.size < 0
  · have e : left m s = -1 := if_pos h
    rw [e]
    clear e
    go_enter Tryz.func114, Tryz.ntmps114
    go_wp2
    go_ret
    exact ⟨rfl, (Below.refl _ _).alloc (Nat.le_refl _) _⟩
  · have e : left m s = m - s.size := if_neg h
    rw [e]
    clear e
    go_enter Tryz.func114, Tryz.ntmps114
    go_wp2
    go_ret
    exact ⟨rfl, (Below.refl _ _).alloc (Nat.le_refl _) _⟩

set_option maxHeartbeats 1000000 in
theorem szENodeS_any (a : Option Addr) (cap : Nat) (L : List Stepx.Node) (w : World) (hN : Nodes w a L) (hlen : L.length ≤ maxLen) :
    Calls Tryz.prog 69 #[.slice a L.length cap, .int .i64 1048576] w fun e w' => (∃ x : Int, e = .returned (.int .i64 x) ∧ (x < 0 ∨ (0 ≤ x ∧ L.length ≤ 1048576))) ∧ Below w.heap.size w w' := by
  unfold maxLen at hlen
  obtain ⟨len, hl⟩ : ∃ len, len = L.length := ⟨_, rfl⟩
  have HL : Hid (len = L.length) := hl
  rw [← hl] at hlen ⊢
  clear hl
  by_cases hbig : 1048576 < len
  · clear hN
    go_enter Tryz.func69, Tryz.ntmps69
    go_wp2
    go_ret
    exact ⟨⟨-1, rfl, .inl (by decide)⟩, Below.refl _ _⟩
  go_enter Tryz.func69, Tryz.ntmps69
  go_wp2
  go_loopw [1, 5] (fun v i wr => ∃ (k : Nat) (m : Int), k ≤ len ∧ 0 ≤ m ∧ m ≤ 1048576 ∧ i = .int .i64 k ∧ v = .int .i64 m ∧ Hid (Below w.heap.size w wr)) (fun _ i _ => len - (intOf i).toNat)
  case atStart => exact ⟨0, _, Nat.zero_le _, by omega, by omega, rfl, rfl, Below.refl _ _⟩
  case round =>
    obtain ⟨k, m, hk, hm0, hm1, rfl, rfl, hbel⟩ := hrel
    by_cases hlt : k < len
    · have hkL : k < L.length := by have := HL.out; omega
      rcases hN with hnil | ⟨b, off, rfl, hb, hc⟩
      · exfalso; rw [hnil] at hkL; exact absurd hkL (by simp)
      obtain ⟨c0, c1, c2, hsz⟩ : wr.cell? ⟨b, off + k * 3, none⟩ = some (.int .i64 L[k].1) ∧ wr.cell? ⟨b, off + k * 3 + 1, none⟩ = some (.int .i64 L[k].2.1) ∧ wr.cell? ⟨b, off + k * 3 + 2, none⟩ = some (.string L[k].2.2) ∧ L[k].2.2.size ≤ maxLen := by
        obtain ⟨d0, d1, d2, d3⟩ := hc k hkL
        exact ⟨(hbel.out.cell (p := ⟨b, _, none⟩) hb).trans d0, (hbel.out.cell (p := ⟨b, _, none⟩) hb).trans d1, (hbel.out.cell (p := ⟨b, _, none⟩) hb).trans d2, d3⟩
      clear hc
      obtain ⟨kd, n, s, hnode⟩ : ∃ kd n s, L[k] = (kd, n, s) := ⟨_, _, _, rfl⟩
      rw [hnode] at c0 c1 c2 hsz
      simp only at c0 c1 c2 hsz
      clear hnode
      have cs := fun W => szENode_any kd n m s W hsz hm0 hm1
      have hq : left m s = -1 ∨ (0 ≤ left m s ∧ left m s ≤ 1048576) := by
        unfold left; by_cases h : m - s.size < 0
        · rw [if_pos h]; exact .inl rfl
        · rw [if_neg h]; omega
      generalize left m s = q at cs hq
      go_wp2_with fail
      refine (cs _).mono ?_
      rintro e w1 ⟨rfl, hb1⟩
      have bel1 : Hid (Below w.heap.size w w1) := hbel.out.trans (hb1.mono hbel.out.size)
      clear hb1 hbel
      rcases hq with rfl | ⟨q0, q1⟩
      · go_wp2
        go_ret
        exact ⟨⟨-1, rfl, .inl (by decide)⟩, bel1.out⟩
      · go_wp2
        go_roundw
        case rel => exact ⟨k + 1, q, by omega, q0, q1, by go_num, rfl, bel1.out⟩
        case measure => simp [intOf]; omega
    · clear hN
      go_wp2
      go_ret
      exact ⟨⟨m, rfl, .inr ⟨hm0, by omega⟩⟩, hbel.out⟩

theorem toENode_any (k n : Int) (s : ByteArray) (w : World) :
    Calls Tryz.prog 118 #[.agg #[.int .i64 k, .int .i64 n, .string s]] w fun e w' => e = .returned (.agg #[.int .i64 k, .int .i64 n, .string s]) ∧ Below w.heap.size w w' := by
  go_enter Tryz.func118, Tryz.ntmps118
  go_wp2
  exact bodyPost_ret (v := .agg #[.int .i64 k, .int .i64 n, .string s]) (by simp [results, Tryz.results118, go_sem]) rfl ⟨rfl, (((Below.refl _ _).alloc (Nat.le_refl _) _).alloc (by simp) _).alloc (by simp; omega) _⟩

/-- The first k nodes lie in the new block; the rest of it can be written. -/
def Part (W : World) (B len : Nat) (L : List Stepx.Node) (k : Nat) : Prop :=
  (∀ i (h : i < L.length), i < k → W.cell? ⟨B, i * 3, none⟩ = some (.int .i64 L[i].1) ∧ W.cell? ⟨B, i * 3 + 1, none⟩ = some (.int .i64 L[i].2.1) ∧ W.cell? ⟨B, i * 3 + 2, none⟩ = some (.string L[i].2.2)) ∧
  (∀ j, j < len * 3 → ∃ u, W.cell? ⟨B, j, none⟩ = some u) ∧ (∀ j, W.frozen? ⟨B, j, none⟩ = false) ∧ B < W.heap.size
theorem Part.kept {W W' : World} {B len k : Nat} {L : List Stepx.Node} (h : Part W B len L k) (hb : W'.heap[B]? = W.heap[B]?) (hs : W.heap.size ≤ W'.heap.size) : Part W' B len L k := by
  have e : ∀ o, W'.cell? ⟨B, o, none⟩ = W.cell? ⟨B, o, none⟩ := fun o => World.cell?_of_block (a := ⟨B, o, none⟩) hb
  have f : ∀ o, W'.frozen? ⟨B, o, none⟩ = W.frozen? ⟨B, o, none⟩ := fun o => World.frozen?_of_block (a := ⟨B, o, none⟩) hb
  refine ⟨fun i hi hk => ?_, fun j hj => ?_, fun j => ?_, Nat.lt_of_lt_of_le h.2.2.2 hs⟩
  · rw [e, e, e]; exact h.1 i hi hk
  · rw [e]; exact h.2.1 j hj
  · rw [f]; exact h.2.2.1 j
theorem Part.set {W : World} {B len k o : Nat} {L : List Stepx.Node} (h : Part W B len L k) (ho : k * 3 ≤ o) (v : Value) : Part (W.setCell ⟨B, o, none⟩ v) B len L k := by
  have ne : ∀ i, i ≠ o → (W.setCell ⟨B, o, none⟩ v).cell? ⟨B, i, none⟩ = W.cell? ⟨B, i, none⟩ := fun i hi => World.cell?_setCell_other W _ _ _ (fun e => hi (by have := congrArg Addr.off e; exact this.symm))
  refine ⟨fun i hi hk => ?_, fun j hj => ?_, fun j => ?_, ?_⟩
  · rw [ne _ (by omega), ne _ (by omega), ne _ (by omega)]; exact h.1 i hi hk
  · by_cases e : j = o
    · subst e
      obtain ⟨u, hu⟩ := h.2.1 j hj
      exact ⟨v, World.cell?_setCell_same W _ _ hu⟩
    · rw [ne j e]; exact h.2.1 j hj
  · rw [World.frozen?_setCell]; exact h.2.2.1 j
  · have := h.2.2.2; simpa [World.setCell] using this
theorem Part.store {W : World} {B len k : Nat} {L : List Stepx.Node} (h : Part W B len L k) (hk : k < len) (hl : len = L.length) (hkL : k < L.length) :
    Part (((W.setCell ⟨B, k * 3, none⟩ (.int .i64 L[k].1)).setCell ⟨B, k * 3 + 1, none⟩ (.int .i64 L[k].2.1)).setCell ⟨B, k * 3 + 2, none⟩ (.string L[k].2.2)) B len L (k + 1) := by
  have h1 := h.set (o := k * 3) (Nat.le_refl _) (.int .i64 L[k].1)
  have h2 := h1.set (o := k * 3 + 1) (by omega) (.int .i64 L[k].2.1)
  have h3 := h2.set (o := k * 3 + 2) (by omega) (.string L[k].2.2)
  refine ⟨fun i hi hik => ?_, h3.2.1, h3.2.2.1, h3.2.2.2⟩
  by_cases e : i = k
  · subst e
    obtain ⟨u0, hu0⟩ := h.2.1 (i * 3) (by omega)
    obtain ⟨u1, hu1⟩ := h1.2.1 (i * 3 + 1) (by omega)
    obtain ⟨u2, hu2⟩ := h2.2.1 (i * 3 + 2) (by omega)
    refine ⟨?_, ?_, World.cell?_setCell_same _ _ _ hu2⟩
    · rw [World.cell?_setCell_other _ _ _ _ (by simp), World.cell?_setCell_other _ _ _ _ (by simp)]
      exact World.cell?_setCell_same _ _ _ hu0
    · rw [World.cell?_setCell_other _ _ _ _ (by simp)]
      exact World.cell?_setCell_same _ _ _ hu1
  · exact h3.1 i hi (by omega)

theorem infoN : (Tryz.prog.info? 147).map (fun i => (i.zero, i.size, i.bytes)) = some (some (.agg #[.int .i64 0, .int .i64 0, .string ⟨#[]⟩]), 3, 32) := by kernel_rfl
theorem Part.made (w : World) (len : Nat) (L : List Stepx.Node) (z : Array Value) (t : TypeId) : Part (w.alloc (.cells (madeCells z (len * 3)) t)) w.heap.size len L 0 := by
  refine ⟨fun i _ h => absurd h (Nat.not_lt_zero _), fun j hj => ?_, fun j => ?_, by simp⟩
  · rw [World.cell?_alloc_new]
    exact ⟨_, Array.getElem?_eq_getElem (by rw [size_madeCells]; exact hj)⟩
  · exact World.frozen?_alloc_at _ _ _ _ rfl

set_option maxHeartbeats 1000000 in
theorem toENodeS_any (a : Option Addr) (cap : Nat) (L : List Stepx.Node) (w : World) (hN : Nodes w a L) (hlen : L.length ≤ 1048576) :
    Calls Tryz.prog 76 #[.slice a L.length cap] w fun e w' => (∃ c : Nat, e = .returned (.slice (some ⟨w.heap.size, 0, none⟩) L.length c) ∧ Nodes w' (some ⟨w.heap.size, 0, none⟩) L) ∧ Below w.heap.size w w' := by
  obtain ⟨i0, hi, hz0, hz1, hz2⟩ := info_parts infoN
  obtain ⟨len, hl⟩ : ∃ len, len = L.length := ⟨_, rfl⟩
  have HL : Hid (len = L.length) := hl
  rw [← hl] at hlen ⊢
  clear hl
  have hmk : ∀ u : World, (Instr.makeSlice 67 (.int .i64 (len : Int)) (.int .i64 (len : Int))).run Tryz.prog u =
      .ok (.slice (some ⟨u.heap.size, 0, none⟩) len len) (u.alloc (.cells (madeCells #[.int .i64 0, .int .i64 0, .string ⟨#[]⟩] (len * 3)) 147)) := fun u => by
    have h := run_make (P := Tryz.prog) u 67 147 i0 (.agg #[.int .i64 0, .int .i64 0, .string ⟨#[]⟩]) Tryz.underlying67 hi hz0 .i64 .i64 (len : Int) (len : Int) (by omega) (Int.le_refl _) (by rw [hz2]; omega) (by omega)
    simpa [hz1, Value.cells] using h
  clear hz0 hz1 hz2 hi
  have P0 : Hid (∀ o, Part (w.alloc (.cells (madeCells #[.int .i64 0, .int .i64 0, .string ⟨#[]⟩] (len * 3)) o)) w.heap.size len L 0) := fun o => Part.made w len L _ o
  go_enter Tryz.func76, Tryz.ntmps76
  go_wp2
  go_loopw [4] (fun i wr => ∃ k : Nat, k ≤ len ∧ i = .int .i64 k ∧ Hid (Part wr w.heap.size len L k) ∧ Hid (Below w.heap.size w wr)) (fun i _ => len - (intOf i).toNat)
  case atStart => exact ⟨0, Nat.zero_le _, rfl, P0.out _, (Below.refl _ _).alloc (Nat.le_refl _) _⟩
  case round =>
    obtain ⟨k, hk, rfl, hpart, hbel⟩ := hrel
    by_cases hlt : k < len
    · have hkL : k < L.length := by have := HL.out; omega
      rcases hN with hnil | ⟨b, off, rfl, hb, hc⟩
      · exfalso; rw [hnil] at hkL; exact absurd hkL (by simp)
      obtain ⟨c0, c1, c2⟩ : wr.cell? ⟨b, off + k * 3, none⟩ = some (.int .i64 L[k].1) ∧ wr.cell? ⟨b, off + k * 3 + 1, none⟩ = some (.int .i64 L[k].2.1) ∧ wr.cell? ⟨b, off + k * 3 + 2, none⟩ = some (.string L[k].2.2) := by
        obtain ⟨d0, d1, d2, d3⟩ := hc k hkL
        exact ⟨(hbel.out.cell (p := ⟨b, _, none⟩) hb).trans d0, (hbel.out.cell (p := ⟨b, _, none⟩) hb).trans d1, (hbel.out.cell (p := ⟨b, _, none⟩) hb).trans d2⟩
      clear hc
      have S : Hid (∀ W, Part W w.heap.size len L k → Part (((W.setCell ⟨w.heap.size, k * 3, none⟩ (.int .i64 L[k].1)).setCell ⟨w.heap.size, k * 3 + 1, none⟩ (.int .i64 L[k].2.1)).setCell ⟨w.heap.size, k * 3 + 2, none⟩ (.string L[k].2.2)) w.heap.size len L (k + 1)) := fun W h => h.store hlt HL.out hkL
      generalize L[k].1 = kd at c0 S
      generalize L[k].2.1 = n at c1 S
      generalize L[k].2.2 = s at c2 S
      go_wp2_with fail
      refine (toENode_any _ _ _ _).mono ?_
      rintro e w1 ⟨rfl, hb1⟩
      have hp1 : Hid (Part w1 w.heap.size len L k) := hpart.out.kept (hb1.block _ hpart.out.2.2.2) hb1.size
      have bel1 : Hid (Below w.heap.size w w1) := hbel.out.trans (hb1.mono hbel.out.size)
      obtain ⟨u0, x0⟩ := hp1.out.2.1 (k * 3) (by omega)
      obtain ⟨u1, x1⟩ := hp1.out.2.1 (k * 3 + 1) (by omega)
      obtain ⟨u2, x2⟩ := hp1.out.2.1 (k * 3 + 2) (by omega)
      have f0 := hp1.out.2.2.1 (k * 3)
      have f1 := hp1.out.2.2.1 (k * 3 + 1)
      have f2 := hp1.out.2.2.1 (k * 3 + 2)
      clear hb1 hbel hpart c0 c1 c2
      go_wp2
      go_roundw
      case rel => exact ⟨k + 1, by omega, by go_num, S.out _ hp1.out, ((bel1.out.setCell (Nat.le_refl _) _).setCell (Nat.le_refl _) _).setCell (Nat.le_refl _) _⟩
      case measure => simp [intOf]; omega
    · have hz : ∀ i (h : i < L.length), L[i].2.2.size ≤ maxLen := fun i h => by
        rcases hN with hnil | ⟨b, off, _, _, hc⟩
        · exfalso; rw [hnil] at h; exact absurd h (by simp)
        · exact (hc i h).2.2.2
      have HZ : Hid (∀ i (h : i < L.length), L[i].2.2.size ≤ maxLen) := hz
      clear hN hz
      go_wp2
      go_ret
      refine ⟨⟨len, rfl, .inr ⟨w.heap.size, 0, rfl, hpart.out.2.2.2, fun i hi => ?_⟩⟩, hbel.out⟩
      have := hpart.out.1 i hi (by have := HL.out; omega)
      rw [Nat.zero_add]
      exact ⟨this.1, this.2.1, this.2.2, HZ.out i hi⟩

theorem below_of_drew {w w' : World} (h : Below w.drew.heap.size w.drew w') : Below w.heap.size w w' := ⟨h.os, h.tape, h.output, h.size, h.block⟩
theorem eqENode_any (k n : Int) (s : ByteArray) (w : World) :
    Calls Tryz.prog 124 #[.agg #[.int .i64 k, .int .i64 n, .string s], .agg #[.int .i64 k, .int .i64 n, .string s]] w fun e w' => e = .returned (.bool true) ∧ Below w.heap.size w w' := by
  go_enter Tryz.func124, Tryz.ntmps124
  go_wp2
  go_ret
  exact ⟨rfl, ((Below.refl _ _).alloc (Nat.le_refl _) _).alloc (by simp) _⟩

set_option maxHeartbeats 1000000 in
theorem eqENodeS_any (a a' : Option Addr) (cap cap' : Nat) (L : List Stepx.Node) (w : World) (hN : Nodes w a L) (hN' : Nodes w a' L) (hlen : L.length ≤ 1048576) :
    Calls Tryz.prog 86 #[.slice a L.length cap, .slice a' L.length cap'] w fun e w' => e = .returned (.bool true) ∧ Below w.heap.size w w' := by
  obtain ⟨len, hl⟩ : ∃ len, len = L.length := ⟨_, rfl⟩
  have HL : Hid (len = L.length) := hl
  rw [← hl] at hlen ⊢
  clear hl
  go_enter Tryz.func86, Tryz.ntmps86
  go_wp2
  go_loopw [5] (fun i wr => ∃ k : Nat, k ≤ len ∧ i = .int .i64 k ∧ Hid (Below w.heap.size w wr)) (fun i _ => len - (intOf i).toNat)
  case atStart => exact ⟨0, Nat.zero_le _, rfl, Below.refl _ _⟩
  case round =>
    obtain ⟨k, hk, rfl, hbel⟩ := hrel
    by_cases hlt : k < len
    · have hkL : k < L.length := by have := HL.out; omega
      rcases hN with hnil | ⟨b, off, rfl, hb, hc⟩
      · exfalso; rw [hnil] at hkL; exact absurd hkL (by simp)
      rcases hN' with hnil | ⟨b', off', rfl, hb', hc'⟩
      · exfalso; rw [hnil] at hkL; exact absurd hkL (by simp)
      obtain ⟨c0, c1, c2⟩ : wr.cell? ⟨b, off + k * 3, none⟩ = some (.int .i64 L[k].1) ∧ wr.cell? ⟨b, off + k * 3 + 1, none⟩ = some (.int .i64 L[k].2.1) ∧ wr.cell? ⟨b, off + k * 3 + 2, none⟩ = some (.string L[k].2.2) := by
        obtain ⟨d0, d1, d2, d3⟩ := hc k hkL
        exact ⟨(hbel.out.cell (p := ⟨b, _, none⟩) hb).trans d0, (hbel.out.cell (p := ⟨b, _, none⟩) hb).trans d1, (hbel.out.cell (p := ⟨b, _, none⟩) hb).trans d2⟩
      obtain ⟨e0, e1, e2⟩ : wr.cell? ⟨b', off' + k * 3, none⟩ = some (.int .i64 L[k].1) ∧ wr.cell? ⟨b', off' + k * 3 + 1, none⟩ = some (.int .i64 L[k].2.1) ∧ wr.cell? ⟨b', off' + k * 3 + 2, none⟩ = some (.string L[k].2.2) := by
        obtain ⟨d0, d1, d2, d3⟩ := hc' k hkL
        exact ⟨(hbel.out.cell (p := ⟨b', _, none⟩) hb').trans d0, (hbel.out.cell (p := ⟨b', _, none⟩) hb').trans d1, (hbel.out.cell (p := ⟨b', _, none⟩) hb').trans d2⟩
      clear hc hc'
      generalize L[k].1 = kd at c0 e0
      generalize L[k].2.1 = n at c1 e1
      generalize L[k].2.2 = s at c2 e2
      have k0 : (0 : Int) ≤ (k : Int) := by omega
      have k1 : (k : Int) < (len : Int) := by omega
      go_wp2_with fail
      go_region_with (go_at_call 124; refine (eqENode_any _ _ _ _).mono ?_; rintro e w1 ⟨rfl, hb1⟩)
      all_goals go_wp2
      all_goals
        go_roundw
        case rel => exact ⟨k + 1, by omega, by go_num, hbel.out.trans ((below_of_drew hb1).mono hbel.out.size)⟩
        case measure => simp [intOf]; omega
    · clear hN hN'
      go_wp2
      go_ret
      exact ⟨rfl, hbel.out⟩

end Go.Proofs.YtplkglgaobdpiaaGreatDoor.Mirror
