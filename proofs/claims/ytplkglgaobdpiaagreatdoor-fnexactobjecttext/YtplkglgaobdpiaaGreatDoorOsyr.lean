/-
  Contracts of ours for the laws' own helpers over OSym: the datum, rows of it, sizes, the mirror's as the program's, equality. (Written by tools/mkrows.py.)
-/
import Derived.Test.YtplkglgaobdpiaaGreatDoorNodw
import Derived.Deep.Strs
import Derived.Deep.RegionWith
import Derived.Deep.Cut
import Derived.Laws.Rows
import Derived.Laws.Tables
import Derived.Laws.CopyOwn
import Derived.WalkLawsBesides
namespace Go.Proofs.YtplkglgaobdpiaaGreatDoor.Osyr
open Go.ChangeShapes Go.WideShapes Go.ChangeAt Go.RowKit Go.Deep
set_option linter.unusedVariables false
set_option linter.unusedSimpArgs false
set_option maxRecDepth 20000
structure X where
  f0 : ByteArray
  f1 : Int
  f2 : Int
  f3 : Bool
instance : Inhabited X := ⟨⟨⟨#[]⟩, 0, 0, false⟩⟩
/-- What a struct's cells point at, all of it at N or above. -/
def Has (N : Nat) (w : World) (x : X) : Prop := x.f0.size ≤ maxLen
theorem Has.kept {N : Nat} {w w' : World} {x : X} (h : Has N w x) (hk : ∀ k, N ≤ k → k < w.heap.size → w'.heap[k]? = w.heap[k]?) (hs : w.heap.size ≤ w'.heap.size) : Has N w' x := by
  have z0 : x.f0.size ≤ maxLen := h
  exact z0
theorem Has.mono {N N' : Nat} {w : World} {x : X} (h : Has N w x) (hN : N' ≤ N) : Has N' w x := by
  have z0 : x.f0.size ≤ maxLen := h
  exact z0
theorem Has.below {N : Nat} {w w' : World} {x : X} (h : Has N w x) (hb : Below w.heap.size w w') : Has N w' x := h.kept (fun k _ hk => hb.block k hk) hb.size
/-- One lies there. -/
def At (N : Nat) (w : World) (b o : Nat) (x : X) : Prop := w.cell? ⟨b, o, none⟩ = some (.string x.f0) ∧ w.cell? ⟨b, o + 1, none⟩ = some (.int .i64 x.f1) ∧ w.cell? ⟨b, o + 2, none⟩ = some (.int .i64 x.f2) ∧ w.cell? ⟨b, o + 3, none⟩ = some (.bool x.f3) ∧ Has N w x
theorem At.kept {N : Nat} {w w' : World} {b o : Nat} {x : X} (h : At N w b o x) (hb : w'.heap[b]? = w.heap[b]?) (hk : ∀ k, N ≤ k → k < w.heap.size → w'.heap[k]? = w.heap[k]?) (hs : w.heap.size ≤ w'.heap.size) : At N w' b o x := by
  obtain ⟨d0, d1, d2, d3, hh⟩ := h
  have e : ∀ i, w'.cell? ⟨b, i, none⟩ = w.cell? ⟨b, i, none⟩ := fun i => World.cell?_of_block (a := ⟨b, i, none⟩) hb
  exact ⟨(e _).trans d0, (e _).trans d1, (e _).trans d2, (e _).trans d3, hh.kept hk hs⟩
/-- A row of them lies there, all of it at N or above. -/
def Row (N : Nat) (w : World) (a : Option Addr) (L : List X) : Prop :=
  L = [] ∨ ∃ b off, a = some ⟨b, off, none⟩ ∧ N ≤ b ∧ b < w.heap.size ∧ ∀ i (h : i < L.length), At N w b (off + i * 4) L[i]
theorem Row.kept {N : Nat} {w w' : World} {a : Option Addr} {L : List X} (h : Row N w a L) (hk : ∀ k, N ≤ k → k < w.heap.size → w'.heap[k]? = w.heap[k]?) (hs : w.heap.size ≤ w'.heap.size) : Row N w' a L := by
  rcases h with h | ⟨b, off, ha, hN, hl, hc⟩
  · exact .inl h
  · exact .inr ⟨b, off, ha, hN, Nat.lt_of_lt_of_le hl hs, fun i hi => (hc i hi).kept (hk b hN hl) hk hs⟩
theorem Row.mono {N N' : Nat} {w : World} {a : Option Addr} {L : List X} (h : Row N w a L) (hN : N' ≤ N) : Row N' w a L := by
  rcases h with h | ⟨b, off, ha, hNb, hl, hc⟩
  · exact .inl h
  · exact .inr ⟨b, off, ha, by omega, hl, fun i hi => by obtain ⟨d0, d1, d2, d3, hh⟩ := hc i hi; exact ⟨d0, d1, d2, d3, hh.mono hN⟩⟩
theorem Row.below {N : Nat} {w w' : World} {a : Option Addr} {L : List X} (h : Row N w a L) (hb : Below w.heap.size w w') : Row N w' a L := h.kept (fun k _ hk => hb.block k hk) hb.size
theorem cellsX : Tryz.prog.cellsOf 104 = 4 := by kernel_rfl
theorem cells_0 : Tryz.prog.cellsOf 9 = 1 := by kernel_rfl
theorem cells_1 : Tryz.prog.cellsOf 2 = 1 := by kernel_rfl
theorem cells_2 : Tryz.prog.cellsOf 2 = 1 := by kernel_rfl
theorem cells_3 : Tryz.prog.cellsOf 4 = 1 := by kernel_rfl
theorem fieldsX : ∃ f0 f1 f2 f3 : Field, Tryz.prog.underlying 104 = some (.struct #[f0, f1, f2, f3]) ∧ (f0.type = 9 ∧ f0.offset = 0) ∧ (f1.type = 2 ∧ f1.offset = 1) ∧ (f2.type = 2 ∧ f2.offset = 2) ∧ (f3.type = 4 ∧ f3.offset = 3) :=
  ⟨_, _, _, _, Tryz.underlying104, ⟨rfl, rfl⟩, ⟨rfl, rfl⟩, ⟨rfl, rfl⟩, ⟨rfl, rfl⟩⟩
theorem x_of {H : Type} {enc : TypeId × Value → H} {w : World} {base : Nat} {spare : Nat → Bool} {held : Bool} {fuel : Nat} {cs : List Value} {x : DataW H × List MemPlace}
    (h : DataW.trod enc Tryz.prog w base spare held fuel 104 cs = some x) :
    ∃ (x : X), cs = [.string x.f0, .int .i64 x.f1, .int .i64 x.f2, .bool x.f3] ∧ Has 0 w x := by
  obtain ⟨f0, f1, f2, f3, hf, ⟨t0, o0⟩, ⟨t1, o1⟩, ⟨t2, o2⟩, ⟨t3, o3⟩⟩ := fieldsX
  obtain ⟨xs, n, _, _, hl, hlen, g⟩ := DataW.trod_struct hf h
  rw [cellsX] at hl
  match cs, hl, xs, hlen with
  | [v0, v1, v2, v3], _, [y0, y1, y2, y3], _ =>
    have g0 := g 0 f0 rfl
    rw [t0, o0, cells_0] at g0
    have g1 := g 1 f1 rfl
    rw [t1, o1, cells_1] at g1
    have g2 := g 2 f2 rfl
    rw [t2, o2, cells_2] at g2
    have g3 := g 3 f3 rfl
    rw [t3, o3, cells_3] at g3
    obtain ⟨q0, e0, _, z0⟩ := DataW.trod_string Tryz.underlying9 g0
    obtain ⟨q1, e1, _⟩ := DataW.trod_int Tryz.underlying2 g1
    obtain ⟨q2, e2, _⟩ := DataW.trod_int Tryz.underlying2 g2
    obtain ⟨q3, e3, _⟩ := DataW.trod_bool Tryz.underlying4 g3
    simp at e0 e1 e2 e3
    subst e0 e1 e2 e3
    exact ⟨⟨q0, q1, q2, q3⟩, rfl, z0⟩
theorem row_of {H : Type} {enc : TypeId × Value → H} {w : World} {base : Nat} {spare : Nat → Bool} {held : Bool} {fuel : Nat} {cs : List Value} {x : DataW H × List MemPlace}
    (h : DataW.trod enc Tryz.prog w base spare held fuel 23 cs = some x) : ∃ a len cap L, cs = [.slice a len cap] ∧ L.length = len ∧ len ≤ maxLen ∧ Row 0 w a L := by
  rcases open_slice Tryz.underlying23 h with ⟨rfl, _⟩ | ⟨a, len, cap, m, n, D, Pl, rfl, hb, hl, hm, hmm, rfl, hx⟩
  · exact ⟨none, 0, 0, [], rfl, rfl, Nat.zero_le _, .inl rfl⟩
  have hlm : len ≤ m := by rw [hmm]; split <;> omega
  have each : ∀ i, i < len → ∃ q : X, w.cell? (a.add (i * 4)) = some (.string q.f0) ∧ w.cell? (a.add (i * 4 + 1)) = some (.int .i64 q.f1) ∧ w.cell? (a.add (i * 4 + 2)) = some (.int .i64 q.f2) ∧ w.cell? (a.add (i * 4 + 3)) = some (.bool q.f3) ∧ Has 0 w q := by
    intro i hi
    obtain ⟨cs', h1, h2⟩ := hx i (by omega)
    rw [cellsX] at h1
    obtain ⟨_, hlen, hcell⟩ := World.cells?_some h1
    obtain ⟨q, rfl, hh⟩ := x_of h2
    have d0 := hcell 0 (by simp)
    have d1 := hcell 1 (by simp)
    have d2 := hcell 2 (by simp)
    have d3 := hcell 3 (by simp)
    rw [add_add] at d0 d1 d2 d3
    exact ⟨q, by simpa using d0, by simpa using d1, by simpa using d2, by simpa using d3, hh⟩
  obtain ⟨q, hq⟩ := choose_lt each
  refine ⟨some a, len, cap, (List.range len).map q, rfl, by simp, by omega, ?_⟩
  by_cases h0 : len = 0
  · subst h0; exact .inl rfl
  obtain ⟨b, off, spot⟩ := a
  obtain ⟨c0', _⟩ := hq 0 (by omega)
  have hspot : spot = none := by simpa [Addr.add] using World.cell?_spot c0'
  subst hspot
  have e : ∀ i, (⟨b, off, none⟩ : Addr).add i = ⟨b, off + i, none⟩ := fun i => by unfold Addr.add; split <;> simp_all
  refine .inr ⟨b, off, rfl, Nat.zero_le _, World.block_lt_of_cell? w ⟨b, off, none⟩ (by simpa [Addr.add] using c0'), fun i hi => ?_⟩
  have hi' : i < len := by simpa using hi
  obtain ⟨d0, d1, d2, d3, hh⟩ := hq i hi'
  rw [e] at d0 d1 d2 d3
  simp only [List.getElem_map, List.getElem_range]
  exact ⟨d0, by rw [Nat.add_assoc]; exact d1, by rw [Nat.add_assoc]; exact d2, by rw [Nat.add_assoc]; exact d3, hh⟩
def SmallX (x : X) : Prop := x.f0.size ≤ 1048576
def Small (L : List X) : Prop := L.length ≤ 1048576 ∧ ∀ i (h : i < L.length), SmallX L[i]
set_option maxHeartbeats 1000000 in
theorem szX_any (x : X) (m : Int) (w : World) (hh : Has 0 w x) (h0 : 0 ≤ m) (h1 : m ≤ 1048576) :
    Calls Tryz.prog 68 #[.agg #[.string x.f0, .int .i64 x.f1, .int .i64 x.f2, .bool x.f3], .int .i64 m] w fun e w' => (∃ q : Int, e = .returned (.int .i64 q) ∧ (q = -1 ∨ (0 ≤ q ∧ q ≤ m ∧ SmallX x))) ∧ Below w.heap.size w w' := by
  have z0 : x.f0.size ≤ maxLen := hh
  have SX : Hid (x.f0.size ≤ 1048576 → SmallX x) := fun s0 => s0
  unfold maxLen at z0
  generalize x.f0 = q0 at *
  generalize x.f1 = q1 at *
  generalize x.f2 = q2 at *
  generalize x.f3 = q3 at *
  go_enter Tryz.func68, Tryz.ntmps68
  have WB : Hid (∀ o : Obj, Below w.heap.size w (w.alloc o)) := fun o => (Below.refl _ _).alloc (Nat.le_refl _) _
  by_cases b0 : m - (q0.size : Int) < 0
  · go_wp2
    go_ret
    exact ⟨⟨-1, rfl, .inl rfl⟩, (WB.out _)⟩
  go_wp2
  go_ret
  exact ⟨⟨_, rfl, .inr ⟨by omega, by omega, SX.out (by omega)⟩⟩, (WB.out _)⟩
set_option maxHeartbeats 1000000 in
theorem szXS_any (a : Option Addr) (cap : Nat) (L : List X) (m0 : Int) (w : World) (hN : Row 0 w a L) (hlen : L.length ≤ maxLen) (h0 : 0 ≤ m0) (h1 : m0 ≤ 1048576) :
    Calls Tryz.prog 25 #[.slice a L.length cap, .int .i64 m0] w fun e w' => (∃ q : Int, e = .returned (.int .i64 q) ∧ (q = -1 ∨ (0 ≤ q ∧ q ≤ m0 ∧ Small L))) ∧ Below w.heap.size w w' := by
  unfold maxLen at hlen
  obtain ⟨len, hl⟩ : ∃ len, len = L.length := ⟨_, rfl⟩
  have HL : Hid (len = L.length) := hl
  rw [← hl] at hlen ⊢
  clear hl
  by_cases hbig : m0 - (len : Int) < 0
  · clear hN
    go_enter Tryz.func25, Tryz.ntmps25
    go_wp2
    go_ret
    exact ⟨⟨-1, rfl, .inl rfl⟩, Below.refl _ _⟩
  go_enter Tryz.func25, Tryz.ntmps25
  go_wp2
  go_loopw [1, 5] (fun v i wr => ∃ (k : Nat) (m : Int), k ≤ len ∧ 0 ≤ m ∧ m ≤ m0 ∧ i = .int .i64 k ∧ v = .int .i64 m ∧ Hid (∀ i (h : i < L.length), i < k → SmallX L[i]) ∧ Hid (Below w.heap.size w wr)) (fun _ i _ => len - (intOf i).toNat)
  case atStart => exact ⟨0, _, Nat.zero_le _, by omega, by omega, rfl, rfl, (fun i _ h => absurd h (Nat.not_lt_zero _)), Below.refl _ _⟩
  case round =>
    obtain ⟨k, m, hk, hm0, hm1, rfl, rfl, hsm, hbel⟩ := hrel
    by_cases hlt : k < len
    · have hkL : k < L.length := by have := HL.out; omega
      rcases hN with hnil | ⟨b, off, rfl, _, hb, hc⟩
      · exfalso; rw [hnil] at hkL; exact absurd hkL (by simp)
      obtain ⟨d0, d1, d2, d3, hh⟩ := (hc k hkL).kept (hbel.out.block b hb) (fun j _ hj => hbel.out.block j hj) hbel.out.size
      have NX : Hid (SmallX L[k] → ∀ i (h : i < L.length), i < k + 1 → SmallX L[i]) := fun hs i hi hik => by
        rcases Nat.lt_or_ge i k with c | c
        · exact hsm.out i hi c
        · obtain rfl : i = k := by omega
          exact hs
      clear hc hsm
      have cs := fun W (h : Has 0 W L[k]) => szX_any L[k] m W h hm0 (by omega)
      have HH : Hid (Has 0 wr L[k]) := hh
      obtain ⟨S, hS⟩ : ∃ S : Prop, S = SmallX L[k] := ⟨_, rfl⟩
      rw [← hS] at NX
      simp only [← hS] at cs
      clear hh hS
      have WB : Hid (∀ W, Below wr.heap.size wr W → Has 0 W L[k]) := fun W h => HH.out.below h
      clear HH
      generalize L[k] = x at *
      obtain ⟨q0, hq0⟩ : ∃ q, q = x.f0 := ⟨_, rfl⟩
      rw [← hq0] at d0
      simp only [← hq0] at cs
      clear hq0
      obtain ⟨q1, hq1⟩ : ∃ q, q = x.f1 := ⟨_, rfl⟩
      rw [← hq1] at d1
      simp only [← hq1] at cs
      clear hq1
      obtain ⟨q2, hq2⟩ : ∃ q, q = x.f2 := ⟨_, rfl⟩
      rw [← hq2] at d2
      simp only [← hq2] at cs
      clear hq2
      obtain ⟨q3, hq3⟩ : ∃ q, q = x.f3 := ⟨_, rfl⟩
      rw [← hq3] at d3
      simp only [← hq3] at cs
      clear hq3
      go_wp2_with fail
      refine (cs _ (WB.out _ (Below.refl _ _))).mono ?_
      rintro e w1 ⟨⟨q, rfl, hq⟩, hb1⟩
      have bel1 : Hid (Below w.heap.size w w1) := hbel.out.trans (hb1.mono hbel.out.size)
      clear hb1 hbel WB
      rcases hq with rfl | ⟨q0', q1', hs⟩
      · go_wp2
        go_ret
        exact ⟨⟨-1, rfl, .inl rfl⟩, bel1.out⟩
      · have NY := NX.out hs
        have NY : Hid (∀ i (h : i < L.length), i < k + 1 → SmallX L[i]) := NY
        go_wp2
        go_roundw
        case rel => exact ⟨k + 1, q, by omega, q0', by omega, by go_num, rfl, NY.out, bel1.out⟩
        case measure => simp [intOf]; omega
    · have SM : Hid (Small L) := ⟨by have := HL.out; omega, fun i hi => hsm.out i hi (by have := HL.out; omega)⟩
      clear hN hsm
      go_wp2
      go_ret
      exact ⟨⟨m, rfl, .inr ⟨hm0, hm1, SM.out⟩⟩, hbel.out⟩
set_option maxHeartbeats 2000000 in
theorem toX_any (x : X) (w : World) (hh : Has 0 w x) (hsm : SmallX x) :
    Calls Tryz.prog 75 #[.agg #[.string x.f0, .int .i64 x.f1, .int .i64 x.f2, .bool x.f3]] w fun e w' => (e = .returned (.agg #[.string x.f0, .int .i64 x.f1, .int .i64 x.f2, .bool x.f3]) ∧ Has w.heap.size w' x) ∧ Below w.heap.size w w' := by
  have z0 : x.f0.size ≤ maxLen := hh
  have HH : Hid (Has w.heap.size w x) := z0
  have HK : Hid (∀ W, Has w.heap.size w x → Has w.heap.size W x) := fun W h => h
  obtain ⟨q0, hq0⟩ : ∃ q, q = x.f0 := ⟨_, rfl⟩
  rw [← hq0]
  obtain ⟨q1, hq1⟩ : ∃ q, q = x.f1 := ⟨_, rfl⟩
  rw [← hq1]
  obtain ⟨q2, hq2⟩ : ∃ q, q = x.f2 := ⟨_, rfl⟩
  rw [← hq2]
  obtain ⟨q3, hq3⟩ : ∃ q, q = x.f3 := ⟨_, rfl⟩
  rw [← hq3]
  clear hq0 hq1 hq2 hq3
  go_enter Tryz.func75, Tryz.ntmps75
  go_wp2
  exact bodyPost_ret (v := .agg #[.string q0, .int .i64 q1, .int .i64 q2, .bool q3]) (by simp [results, Tryz.results75, go_sem]) rfl ⟨⟨rfl, HK.out _ HH.out⟩, (((Below.refl _ _).alloc (Nat.le_refl _) _).alloc (by simp) _).alloc (by simp; omega) _⟩
/-- The first k lie in the new block; the rest of it can be written. -/
def Part (W : World) (B len : Nat) (L : List X) (k : Nat) : Prop :=
  (∀ i (h : i < L.length), i < k → At (B + 1) W B (i * 4) L[i]) ∧ (∀ j, j < len * 4 → ∃ u, W.cell? ⟨B, j, none⟩ = some u) ∧ (∀ j, W.frozen? ⟨B, j, none⟩ = false) ∧ B < W.heap.size
theorem Part.kept {W W' : World} {B len k : Nat} {L : List X} (h : Part W B len L k) (hb : Below W.heap.size W W') : Part W' B len L k := by
  have hB := hb.block B h.2.2.2
  refine ⟨fun i hi hk => (h.1 i hi hk).kept hB (fun j _ hj => hb.block j hj) hb.size, fun j hj => ?_, fun j => ?_, Nat.lt_of_lt_of_le h.2.2.2 hb.size⟩
  · rw [World.cell?_of_block (a := ⟨B, j, none⟩) hB]; exact h.2.1 j hj
  · rw [World.frozen?_of_block (a := ⟨B, j, none⟩) hB]; exact h.2.2.1 j
theorem Part.set {W : World} {B len k o : Nat} {L : List X} (h : Part W B len L k) (ho : k * 4 ≤ o) (v : Value) : Part (W.setCell ⟨B, o, none⟩ v) B len L k := by
  have ne : ∀ i, i ≠ o → (W.setCell ⟨B, o, none⟩ v).cell? ⟨B, i, none⟩ = W.cell? ⟨B, i, none⟩ := fun i hi => World.cell?_setCell_other W _ _ _ (fun e => hi (by have := congrArg Addr.off e; exact this.symm))
  have hko : ∀ j, B + 1 ≤ j → j < W.heap.size → (W.setCell ⟨B, o, none⟩ v).heap[j]? = W.heap[j]? := fun j hj _ => Below.heap_setCell _ _ _ _ (by simp; omega)
  refine ⟨fun i hi hk => ?_, fun j hj => ?_, fun j => ?_, ?_⟩
  · obtain ⟨d0, d1, d2, d3, hh⟩ := h.1 i hi hk
    have hlt : i * 4 + 3 < o := by have : (i + 1) * 4 ≤ k * 4 := Nat.mul_le_mul_right _ hk; omega
    exact ⟨(ne _ (by omega)).trans d0, (ne _ (by omega)).trans d1, (ne _ (by omega)).trans d2, (ne _ (by omega)).trans d3, hh.kept hko (by rw [World.size_setCell]; exact Nat.le_refl _)⟩
  · by_cases e : j = o
    · subst e
      obtain ⟨u, hu⟩ := h.2.1 j hj
      exact ⟨v, World.cell?_setCell_same W _ _ hu⟩
    · rw [ne j e]; exact h.2.1 j hj
  · rw [World.frozen?_setCell]; exact h.2.2.1 j
  · rw [World.size_setCell]; exact h.2.2.2
theorem Part.store {W : World} {B len k : Nat} {L : List X} (h : Part W B len L k) (hk : k < len) (hkL : k < L.length) (hh : Has (B + 1) W L[k]) : Part ((((W.setCell ⟨B, k * 4, none⟩ (.string L[k].f0)).setCell ⟨B, k * 4 + 1, none⟩ (.int .i64 L[k].f1)).setCell ⟨B, k * 4 + 2, none⟩ (.int .i64 L[k].f2)).setCell ⟨B, k * 4 + 3, none⟩ (.bool L[k].f3)) B len L (k + 1) := by
  have h1 := h.set (o := k * 4) (by omega) (.string L[k].f0)
  have h2 := h1.set (o := k * 4 + 1) (by omega) (.int .i64 L[k].f1)
  have h3 := h2.set (o := k * 4 + 2) (by omega) (.int .i64 L[k].f2)
  have h4 := h3.set (o := k * 4 + 3) (by omega) (.bool L[k].f3)
  refine ⟨fun i hi hik => ?_, h4.2.1, h4.2.2.1, h4.2.2.2⟩
  by_cases e : i = k
  · subst e
    obtain ⟨u0, hu0⟩ := h.2.1 (i * 4) (by omega)
    obtain ⟨u1, hu1⟩ := h1.2.1 (i * 4 + 1) (by omega)
    obtain ⟨u2, hu2⟩ := h2.2.1 (i * 4 + 2) (by omega)
    obtain ⟨u3, hu3⟩ := h3.2.1 (i * 4 + 3) (by omega)
    refine ⟨?_, ?_, ?_, ?_, ?_⟩
    · rw [World.cell?_setCell_other _ _ _ _ (by simp), World.cell?_setCell_other _ _ _ _ (by simp), World.cell?_setCell_other _ _ _ _ (by simp)]; exact World.cell?_setCell_same _ _ _ hu0
    · rw [World.cell?_setCell_other _ _ _ _ (by simp), World.cell?_setCell_other _ _ _ _ (by simp)]; exact World.cell?_setCell_same _ _ _ hu1
    · rw [World.cell?_setCell_other _ _ _ _ (by simp)]; exact World.cell?_setCell_same _ _ _ hu2
    · exact World.cell?_setCell_same _ _ _ hu3
    · refine hh.kept (fun j hj _ => ?_) (by simp only [World.size_setCell]; exact Nat.le_refl _)
      rw [Below.heap_setCell _ _ _ _ (by simp; omega), Below.heap_setCell _ _ _ _ (by simp; omega), Below.heap_setCell _ _ _ _ (by simp; omega), Below.heap_setCell _ _ _ _ (by simp; omega)]
  · exact h4.1 i hi (by omega)
theorem infoX : (Tryz.prog.info? 63).map (fun i => (i.zero, i.size, i.bytes)) = some (some (.agg #[.string ⟨#[]⟩, .int .i64 0, .int .i64 0, .bool false]), 4, 40) := by kernel_rfl
theorem Part.made (w : World) (len : Nat) (L : List X) (z : Array Value) (t : TypeId) : Part (w.alloc (.cells (madeCells z (len * 4)) t)) w.heap.size len L 0 := by
  refine ⟨fun i _ h => absurd h (Nat.not_lt_zero _), fun j hj => ?_, fun j => ?_, by simp⟩
  · rw [World.cell?_alloc_new]
    exact ⟨_, Array.getElem?_eq_getElem (by rw [size_madeCells]; exact hj)⟩
  · exact World.frozen?_alloc_at _ _ _ _ rfl
theorem info_parts {P : Program} {t : TypeId} {z : Value} {s b : Nat} (h : (P.info? t).map (fun i => (i.zero, i.size, i.bytes)) = some (some z, s, b)) : ∃ i, P.info? t = some i ∧ i.zero = some z ∧ i.size = s ∧ i.bytes = b := by
  cases e : P.info? t with
  | none => rw [e] at h; cases h
  | some i =>
    rw [e] at h
    simp only [Option.map_some, Option.some.injEq, Prod.mk.injEq] at h
    exact ⟨i, rfl, h.1, h.2.1, h.2.2⟩
set_option maxHeartbeats 1000000 in
theorem toXS_any (a : Option Addr) (cap : Nat) (L : List X) (w : World) (hN : Row 0 w a L) (hsm : Small L) :
    Calls Tryz.prog 29 #[.slice a L.length cap] w fun e w' => (∃ (a' : Option Addr) (c' : Nat), e = .returned (.slice a' L.length c') ∧ Row w.heap.size w' a' L) ∧ Below w.heap.size w w' := by
  obtain ⟨i0, hi, hz0, hz1, hz2⟩ := info_parts infoX
  obtain ⟨len, hl⟩ : ∃ len, len = L.length := ⟨_, rfl⟩
  have HL : Hid (len = L.length) := hl
  have hlen := hsm.1
  have HSM : Hid (Small L) := hsm
  rw [← hl] at hlen ⊢
  clear hl hsm
  have hmk : ∀ u : World, (Instr.makeSlice 30 (.int .i64 (len : Int)) (.int .i64 (len : Int))).run Tryz.prog u =
      .ok (.slice (some ⟨u.heap.size, 0, none⟩) len len) (u.alloc (.cells (madeCells #[.string ⟨#[]⟩, .int .i64 0, .int .i64 0, .bool false] (len * 4)) 63)) := fun u => by
    have h := run_make (P := Tryz.prog) u 30 63 i0 (.agg #[.string ⟨#[]⟩, .int .i64 0, .int .i64 0, .bool false]) Tryz.underlying30 hi hz0 .i64 .i64 (len : Int) (len : Int) (by omega) (Int.le_refl _) (by rw [hz2]; omega) (by omega)
    simpa [hz1, Value.cells] using h
  clear hz0 hz1 hz2 hi
  have P0 : Hid (∀ o, Part (w.alloc (.cells (madeCells #[.string ⟨#[]⟩, .int .i64 0, .int .i64 0, .bool false] (len * 4)) o)) w.heap.size len L 0) := fun o => Part.made w len L _ o
  go_enter Tryz.func29, Tryz.ntmps29
  go_wp2
  go_loopw [4] (fun i wr => ∃ k : Nat, k ≤ len ∧ i = .int .i64 k ∧ Hid (Part wr w.heap.size len L k) ∧ Hid (Below w.heap.size w wr)) (fun i _ => len - (intOf i).toNat)
  case atStart => exact ⟨0, Nat.zero_le _, rfl, P0.out _, (Below.refl _ _).alloc (Nat.le_refl _) _⟩
  case round =>
    obtain ⟨k, hk, rfl, hpart, hbel⟩ := hrel
    by_cases hlt : k < len
    · have hkL : k < L.length := by have := HL.out; omega
      rcases hN with hnil | ⟨b, off, rfl, _, hb, hc⟩
      · exfalso; rw [hnil] at hkL; exact absurd hkL (by simp)
      obtain ⟨d0, d1, d2, d3, hh⟩ := (hc k hkL).kept (hbel.out.block b hb) (fun j _ hj => hbel.out.block j hj) hbel.out.size
      clear hc
      have S : Hid (∀ W, Part W w.heap.size len L k → Has (w.heap.size + 1) W L[k] → Part ((((W.setCell ⟨w.heap.size, k * 4, none⟩ (.string L[k].f0)).setCell ⟨w.heap.size, k * 4 + 1, none⟩ (.int .i64 L[k].f1)).setCell ⟨w.heap.size, k * 4 + 2, none⟩ (.int .i64 L[k].f2)).setCell ⟨w.heap.size, k * 4 + 3, none⟩ (.bool L[k].f3)) w.heap.size len L (k + 1)) := fun W h h2 => h.store hlt hkL h2
      have ct := fun W (h : Has 0 W L[k]) => toX_any L[k] W h (HSM.out.2 k hkL)
      have HH : Hid (Has 0 wr L[k]) := hh
      clear hh
      generalize L[k] = x at *
      have HI : Hid (∀ N W, Has N W x → Has N W x) := fun N W h => h
      obtain ⟨HX, hHX⟩ : ∃ HX : Nat → World → Prop, HX = fun N W => Has N W x := ⟨_, rfl⟩
      have e1 : ∀ N W, (Has N W x) = HX N W := fun N W => by rw [hHX]
      have HM : Hid (∀ N N' W, HX N W → N' ≤ N → HX N' W) := fun N N' W h hN => by rw [← e1] at h ⊢; exact h.mono hN
      simp only [e1] at S ct HH
      clear HI e1 hHX
      obtain ⟨q0, hq0⟩ : ∃ q, q = x.f0 := ⟨_, rfl⟩
      rw [← hq0] at d0
      simp only [← hq0] at S ct
      clear hq0
      obtain ⟨q1, hq1⟩ : ∃ q, q = x.f1 := ⟨_, rfl⟩
      rw [← hq1] at d1
      simp only [← hq1] at S ct
      clear hq1
      obtain ⟨q2, hq2⟩ : ∃ q, q = x.f2 := ⟨_, rfl⟩
      rw [← hq2] at d2
      simp only [← hq2] at S ct
      clear hq2
      obtain ⟨q3, hq3⟩ : ∃ q, q = x.f3 := ⟨_, rfl⟩
      rw [← hq3] at d3
      simp only [← hq3] at S ct
      clear hq3
      go_wp2_with fail
      refine (ct _ HH.out).mono ?_
      rintro e w1 ⟨⟨rfl, hn⟩, hb1⟩
      have hp1 : Hid (Part w1 w.heap.size len L k) := hpart.out.kept hb1
      have hN1 : Hid (HX (w.heap.size + 1) w1) := HM.out _ _ _ hn hpart.out.2.2.2
      have bel1 : Hid (Below w.heap.size w w1) := hbel.out.trans (hb1.mono hbel.out.size)
      obtain ⟨u0, x0⟩ := hp1.out.2.1 (k * 4) (by omega)
      have g0 := hp1.out.2.2.1 (k * 4)
      obtain ⟨u1, x1⟩ := hp1.out.2.1 (k * 4 + 1) (by omega)
      have g1 := hp1.out.2.2.1 (k * 4 + 1)
      obtain ⟨u2, x2⟩ := hp1.out.2.1 (k * 4 + 2) (by omega)
      have g2 := hp1.out.2.2.1 (k * 4 + 2)
      obtain ⟨u3, x3⟩ := hp1.out.2.1 (k * 4 + 3) (by omega)
      have g3 := hp1.out.2.2.1 (k * 4 + 3)
      clear hb1 hbel hpart hn d0 d1 d2 d3
      go_wp2
      go_roundw
      case rel => exact ⟨k + 1, by omega, by go_num, S.out _ hp1.out hN1.out, ((((bel1.out.setCell (Nat.le_refl _) _).setCell (Nat.le_refl _) _).setCell (Nat.le_refl _) _).setCell (Nat.le_refl _) _)⟩
      case measure => simp [intOf]; omega
    · have HE : Hid (Row w.heap.size wr (some ⟨w.heap.size, 0, none⟩) L) := .inr ⟨w.heap.size, 0, rfl, Nat.le_refl _, hpart.out.2.2.2, fun i hi => by
        obtain ⟨d0, d1, d2, d3, hh⟩ := hpart.out.1 i hi (by have := HL.out; omega)
        rw [Nat.zero_add]
        exact ⟨d0, d1, d2, d3, hh.mono (by omega)⟩⟩
      clear hN
      go_wp2
      go_ret
      exact ⟨⟨_, _, rfl, HE.out⟩, hbel.out⟩
set_option maxHeartbeats 1000000 in
theorem eqX_any (x : X) (w : World) (hh : Has 0 w x) (hh' : Has 0 w x) (hsm : SmallX x) :
    Calls Tryz.prog 85 #[.agg #[.string x.f0, .int .i64 x.f1, .int .i64 x.f2, .bool x.f3], .agg #[.string x.f0, .int .i64 x.f1, .int .i64 x.f2, .bool x.f3]] w fun e w' => e = .returned (.bool true) ∧ Below w.heap.size w w' := by
  obtain ⟨q0, hq0⟩ : ∃ q, q = x.f0 := ⟨_, rfl⟩
  rw [← hq0]
  obtain ⟨q1, hq1⟩ : ∃ q, q = x.f1 := ⟨_, rfl⟩
  rw [← hq1]
  obtain ⟨q2, hq2⟩ : ∃ q, q = x.f2 := ⟨_, rfl⟩
  rw [← hq2]
  obtain ⟨q3, hq3⟩ : ∃ q, q = x.f3 := ⟨_, rfl⟩
  rw [← hq3]
  clear hq0 hq1 hq2 hq3
  have WB : Hid (∀ o o' : Obj, Below w.heap.size w ((w.alloc o).alloc o')) := fun o o' => ((Below.refl _ _).alloc (Nat.le_refl _) _).alloc (by simp) _
  go_enter Tryz.func85, Tryz.ntmps85
  go_wp2
  go_ret
  exact ⟨rfl, WB.out _ _⟩
set_option maxHeartbeats 1000000 in
theorem eqXS_any (a a' : Option Addr) (cap cap' : Nat) (L : List X) (w : World) (hN : Row 0 w a L) (hN' : Row 0 w a' L) (hsm : Small L) :
    Calls Tryz.prog 38 #[.slice a L.length cap, .slice a' L.length cap'] w fun e w' => e = .returned (.bool true) ∧ Below w.heap.size w w' := by
  obtain ⟨len, hl⟩ : ∃ len, len = L.length := ⟨_, rfl⟩
  have HL : Hid (len = L.length) := hl
  have hlen := hsm.1
  have HSM : Hid (Small L) := hsm
  rw [← hl] at hlen ⊢
  clear hl hsm
  go_enter Tryz.func38, Tryz.ntmps38
  go_wp2
  go_loopw [5] (fun i wr => ∃ k : Nat, k ≤ len ∧ i = .int .i64 k ∧ Hid (Below w.heap.size w wr)) (fun i _ => len - (intOf i).toNat)
  case atStart => exact ⟨0, Nat.zero_le _, rfl, Below.refl _ _⟩
  case round =>
    obtain ⟨k, hk, rfl, hbel⟩ := hrel
    by_cases hlt : k < len
    · have hkL : k < L.length := by have := HL.out; omega
      rcases hN with hnil | ⟨b, off, rfl, _, hb, hc⟩
      · exfalso; rw [hnil] at hkL; exact absurd hkL (by simp)
      rcases hN' with hnil | ⟨b', off', rfl, _, hb', hc'⟩
      · exfalso; rw [hnil] at hkL; exact absurd hkL (by simp)
      obtain ⟨d0, d1, d2, d3, hh⟩ := (hc k hkL).kept (hbel.out.block b hb) (fun j _ hj => hbel.out.block j hj) hbel.out.size
      obtain ⟨e0, e1, e2, e3, hh'⟩ := (hc' k hkL).kept (hbel.out.block b' hb') (fun j _ hj => hbel.out.block j hj) hbel.out.size
      clear hc hc'
      have ce := fun W (h : Has 0 W L[k]) (h' : Has 0 W L[k]) => eqX_any L[k] W h h' (HSM.out.2 k hkL)
      have HH : Hid (∀ W, Below wr.heap.size wr W → Has 0 W L[k] ∧ Has 0 W L[k]) := fun W h => ⟨hh.below h, hh'.below h⟩
      clear hh hh'
      generalize L[k] = x at *
      have HC : Hid (∀ W, Below wr.heap.size wr W → Calls Tryz.prog 85 #[.agg #[.string x.f0, .int .i64 x.f1, .int .i64 x.f2, .bool x.f3], .agg #[.string x.f0, .int .i64 x.f1, .int .i64 x.f2, .bool x.f3]] W fun e w' => e = .returned (.bool true) ∧ Below W.heap.size W w') := fun W h => ce W (HH.out W h).1 (HH.out W h).2
      clear ce HH
      obtain ⟨q0, hq0⟩ : ∃ q, q = x.f0 := ⟨_, rfl⟩
      rw [← hq0] at d0 e0
      simp only [← hq0] at HC
      clear hq0
      obtain ⟨q1, hq1⟩ : ∃ q, q = x.f1 := ⟨_, rfl⟩
      rw [← hq1] at d1 e1
      simp only [← hq1] at HC
      clear hq1
      obtain ⟨q2, hq2⟩ : ∃ q, q = x.f2 := ⟨_, rfl⟩
      rw [← hq2] at d2 e2
      simp only [← hq2] at HC
      clear hq2
      obtain ⟨q3, hq3⟩ : ∃ q, q = x.f3 := ⟨_, rfl⟩
      rw [← hq3] at d3 e3
      simp only [← hq3] at HC
      clear hq3
      have k0 : (0 : Int) ≤ (k : Int) := by omega
      have k1 : (k : Int) < (len : Int) := by omega
      go_wp2_with fail
      go_region_with (go_at_call 85; refine (HC.out _ ((Below.refl _ _).drew)).mono ?_; rintro e w1 ⟨rfl, hb1⟩)
      all_goals go_wp2
      all_goals
        go_roundw
        case rel => exact ⟨k + 1, by omega, by go_num, hbel.out.trans ((Mirror.below_of_drew hb1).mono hbel.out.size)⟩
        case measure => simp [intOf]; omega
    · clear hN hN'
      go_wp2
      go_ret
      exact ⟨rfl, hbel.out⟩
end Go.Proofs.YtplkglgaobdpiaaGreatDoor.Osyr
