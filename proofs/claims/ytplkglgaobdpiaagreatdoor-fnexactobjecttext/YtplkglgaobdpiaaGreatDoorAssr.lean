/-
  Contracts of ours for the laws' own helpers over ENodeS: the datum, rows of it, sizes, the mirror's as the program's, equality. (Written by tools/mkrows.py.)
-/
import Derived.Test.YtplkglgaobdpiaaGreatDoorNodw
import Derived.Deep.Strs
import Derived.Deep.RegionWith
import Derived.Deep.Cut
import Derived.Laws.Rows
import Derived.Laws.Tables
import Derived.Laws.CopyOwn
import Derived.WalkLawsBesides
namespace Go.Proofs.YtplkglgaobdpiaaGreatDoor.Assr
open Go.ChangeShapes Go.WideShapes Go.ChangeAt Go.RowKit Go.Deep
set_option linter.unusedVariables false
set_option linter.unusedSimpArgs false
set_option maxRecDepth 20000
structure X where
  f0 : List Stepx.Node
instance : Inhabited X := ⟨⟨[]⟩⟩
/-- What a struct's cells point at, all of it at N or above. -/
def Has (N : Nat) (w : World) (x : X) (a0 : Option Addr) : Prop := Nodw.Row N w a0 x.f0 ∧ x.f0.length ≤ maxLen
theorem Has.kept {N : Nat} {w w' : World} {x : X} {a0 : Option Addr} (h : Has N w x a0) (hk : ∀ k, N ≤ k → k < w.heap.size → w'.heap[k]? = w.heap[k]?) (hs : w.heap.size ≤ w'.heap.size) : Has N w' x a0 := by
  obtain ⟨h0, z0⟩ := h
  exact ⟨h0.kept hk hs, z0⟩
theorem Has.mono {N N' : Nat} {w : World} {x : X} {a0 : Option Addr} (h : Has N w x a0) (hN : N' ≤ N) : Has N' w x a0 := by
  obtain ⟨h0, z0⟩ := h
  exact ⟨h0.mono hN, z0⟩
theorem Has.below {N : Nat} {w w' : World} {x : X} {a0 : Option Addr} (h : Has N w x a0) (hb : Below w.heap.size w w') : Has N w' x a0 := h.kept (fun k _ hk => hb.block k hk) hb.size
/-- One lies there. -/
def At (N : Nat) (w : World) (b o : Nat) (x : X) : Prop := ∃ a0 c0, w.cell? ⟨b, o, none⟩ = some (.slice a0 x.f0.length c0) ∧ Has N w x a0
theorem At.kept {N : Nat} {w w' : World} {b o : Nat} {x : X} (h : At N w b o x) (hb : w'.heap[b]? = w.heap[b]?) (hk : ∀ k, N ≤ k → k < w.heap.size → w'.heap[k]? = w.heap[k]?) (hs : w.heap.size ≤ w'.heap.size) : At N w' b o x := by
  obtain ⟨a0, c0, d0, hh⟩ := h
  have e : ∀ i, w'.cell? ⟨b, i, none⟩ = w.cell? ⟨b, i, none⟩ := fun i => World.cell?_of_block (a := ⟨b, i, none⟩) hb
  exact ⟨a0, c0, (e _).trans d0, hh.kept hk hs⟩
/-- A row of them lies there, all of it at N or above. -/
def Row (N : Nat) (w : World) (a : Option Addr) (L : List X) : Prop :=
  L = [] ∨ ∃ b off, a = some ⟨b, off, none⟩ ∧ N ≤ b ∧ b < w.heap.size ∧ ∀ i (h : i < L.length), At N w b (off + i) L[i]
theorem Row.kept {N : Nat} {w w' : World} {a : Option Addr} {L : List X} (h : Row N w a L) (hk : ∀ k, N ≤ k → k < w.heap.size → w'.heap[k]? = w.heap[k]?) (hs : w.heap.size ≤ w'.heap.size) : Row N w' a L := by
  rcases h with h | ⟨b, off, ha, hN, hl, hc⟩
  · exact .inl h
  · exact .inr ⟨b, off, ha, hN, Nat.lt_of_lt_of_le hl hs, fun i hi => (hc i hi).kept (hk b hN hl) hk hs⟩
theorem Row.mono {N N' : Nat} {w : World} {a : Option Addr} {L : List X} (h : Row N w a L) (hN : N' ≤ N) : Row N' w a L := by
  rcases h with h | ⟨b, off, ha, hNb, hl, hc⟩
  · exact .inl h
  · exact .inr ⟨b, off, ha, by omega, hl, fun i hi => by obtain ⟨a0, c0, d0, hh⟩ := hc i hi; exact ⟨a0, c0, d0, hh.mono hN⟩⟩
theorem Row.below {N : Nat} {w w' : World} {a : Option Addr} {L : List X} (h : Row N w a L) (hb : Below w.heap.size w w') : Row N w' a L := h.kept (fun k _ hk => hb.block k hk) hb.size
theorem cellsX : Tryz.prog.cellsOf 106 = 1 := by kernel_rfl
theorem x_of {H : Type} {enc : TypeId × Value → H} {w : World} {base : Nat} {spare : Nat → Bool} {held : Bool} {fuel : Nat} {cs : List Value} {x : DataW H × List MemPlace}
    (h : DataW.trod enc Tryz.prog w base spare held fuel 106 cs = some x) :
    ∃ (x : X) (a0 : Option Addr) (c0 : Nat), cs = [.slice a0 x.f0.length c0] ∧ Has 0 w x a0 := by
  obtain ⟨a0, len0, c0, q0, e0, l0, z0, r0⟩ := Nodw.row_of h
  subst e0
  subst l0
  exact ⟨⟨q0⟩, a0, c0, rfl, r0, z0⟩
theorem row_of {H : Type} {enc : TypeId × Value → H} {w : World} {base : Nat} {spare : Nat → Bool} {held : Bool} {fuel : Nat} {cs : List Value} {x : DataW H × List MemPlace}
    (h : DataW.trod enc Tryz.prog w base spare held fuel 24 cs = some x) : ∃ a len cap L, cs = [.slice a len cap] ∧ L.length = len ∧ len ≤ maxLen ∧ Row 0 w a L := by
  rcases open_slice Tryz.underlying24 h with ⟨rfl, _⟩ | ⟨a, len, cap, m, n, D, Pl, rfl, hb, hl, hm, hmm, rfl, hx⟩
  · exact ⟨none, 0, 0, [], rfl, rfl, Nat.zero_le _, .inl rfl⟩
  have hlm : len ≤ m := by rw [hmm]; split <;> omega
  have each : ∀ i, i < len → ∃ q : X, ∃ a0 c0, w.cell? (a.add (i)) = some (.slice a0 q.f0.length c0) ∧ Has 0 w q a0 := by
    intro i hi
    obtain ⟨cs', h1, h2⟩ := hx i (by omega)
    rw [cellsX] at h1
    obtain ⟨_, hlen, hcell⟩ := World.cells?_some h1
    obtain ⟨q, a0, c0, rfl, hh⟩ := x_of h2
    have d0 := hcell 0 (by simp)
    rw [add_add] at d0
    exact ⟨q, a0, c0, by simpa using d0, hh⟩
  obtain ⟨q, hq⟩ := choose_lt each
  refine ⟨some a, len, cap, (List.range len).map q, rfl, by simp, by omega, ?_⟩
  by_cases h0 : len = 0
  · subst h0; exact .inl rfl
  obtain ⟨b, off, spot⟩ := a
  obtain ⟨_, _, c0', _⟩ := hq 0 (by omega)
  have hspot : spot = none := by simpa [Addr.add] using World.cell?_spot c0'
  subst hspot
  have e : ∀ i, (⟨b, off, none⟩ : Addr).add i = ⟨b, off + i, none⟩ := fun i => by unfold Addr.add; split <;> simp_all
  refine .inr ⟨b, off, rfl, Nat.zero_le _, World.block_lt_of_cell? w ⟨b, off, none⟩ (by simpa [Addr.add] using c0'), fun i hi => ?_⟩
  have hi' : i < len := by simpa using hi
  obtain ⟨a0, c0, d0, hh⟩ := hq i hi'
  rw [e] at d0
  simp only [List.getElem_map, List.getElem_range]
  exact ⟨a0, c0, d0, hh⟩
def SmallX (x : X) : Prop := Nodw.Small x.f0
def Small (L : List X) : Prop := L.length ≤ 1048576 ∧ ∀ i (h : i < L.length), SmallX L[i]
theorem szX_any (x : X) (a0 : Option Addr) (c0 : Nat) (m : Int) (w : World) (hh : Has 0 w x a0) (h0 : 0 ≤ m) (h1 : m ≤ 1048576) :
    Calls Tryz.prog 69 #[.slice a0 x.f0.length c0, .int .i64 m] w fun e w' => (∃ q : Int, e = .returned (.int .i64 q) ∧ (q = -1 ∨ (0 ≤ q ∧ q ≤ m ∧ SmallX x))) ∧ Below w.heap.size w w' := Nodw.szXS_any a0 c0 x.f0 m w hh.1 hh.2 h0 h1
set_option maxHeartbeats 1000000 in
theorem szXS_any (a : Option Addr) (cap : Nat) (L : List X) (m0 : Int) (w : World) (hN : Row 0 w a L) (hlen : L.length ≤ maxLen) (h0 : 0 ≤ m0) (h1 : m0 ≤ 1048576) :
    Calls Tryz.prog 26 #[.slice a L.length cap, .int .i64 m0] w fun e w' => (∃ q : Int, e = .returned (.int .i64 q) ∧ (q = -1 ∨ (0 ≤ q ∧ q ≤ m0 ∧ Small L))) ∧ Below w.heap.size w w' := by
  unfold maxLen at hlen
  obtain ⟨len, hl⟩ : ∃ len, len = L.length := ⟨_, rfl⟩
  have HL : Hid (len = L.length) := hl
  rw [← hl] at hlen ⊢
  clear hl
  by_cases hbig : m0 - (len : Int) < 0
  · clear hN
    go_enter Tryz.func26, Tryz.ntmps26
    go_wp2
    go_ret
    exact ⟨⟨-1, rfl, .inl rfl⟩, Below.refl _ _⟩
  go_enter Tryz.func26, Tryz.ntmps26
  go_wp2
  go_loopw [1, 5] (fun v i wr => ∃ (k : Nat) (m : Int), k ≤ len ∧ 0 ≤ m ∧ m ≤ m0 ∧ i = .int .i64 k ∧ v = .int .i64 m ∧ Hid (∀ i (h : i < L.length), i < k → SmallX L[i]) ∧ Hid (Below w.heap.size w wr)) (fun _ i _ => len - (intOf i).toNat)
  case atStart => exact ⟨0, _, Nat.zero_le _, by omega, by omega, rfl, rfl, (fun i _ h => absurd h (Nat.not_lt_zero _)), Below.refl _ _⟩
  case round =>
    obtain ⟨k, m, hk, hm0, hm1, rfl, rfl, hsm, hbel⟩ := hrel
    by_cases hlt : k < len
    · have hkL : k < L.length := by have := HL.out; omega
      rcases hN with hnil | ⟨b, off, rfl, _, hb, hc⟩
      · exfalso; rw [hnil] at hkL; exact absurd hkL (by simp)
      obtain ⟨a0, c0, d0, hh⟩ := (hc k hkL).kept (hbel.out.block b hb) (fun j _ hj => hbel.out.block j hj) hbel.out.size
      have NX : Hid (SmallX L[k] → ∀ i (h : i < L.length), i < k + 1 → SmallX L[i]) := fun hs i hi hik => by
        rcases Nat.lt_or_ge i k with c | c
        · exact hsm.out i hi c
        · obtain rfl : i = k := by omega
          exact hs
      clear hc hsm
      have cs := fun W (h : Has 0 W L[k] a0) => szX_any L[k] a0 c0 m W h hm0 (by omega)
      have HH : Hid (Has 0 wr L[k] a0) := hh
      obtain ⟨S, hS⟩ : ∃ S : Prop, S = SmallX L[k] := ⟨_, rfl⟩
      rw [← hS] at NX
      simp only [← hS] at cs
      clear hh hS
      have WB : Hid (∀ W, Below wr.heap.size wr W → Has 0 W L[k] a0) := fun W h => HH.out.below h
      clear HH
      generalize L[k] = x at *
      obtain ⟨n0, hn0⟩ : ∃ n, n = x.f0.length := ⟨_, rfl⟩
      rw [← hn0] at d0
      simp only [← hn0] at cs
      clear hn0
      go_wp2_with fail
      refine (cs _ (WB.out _ (Below.refl _ _))).mono ?_
      rintro e w1 ⟨⟨q, rfl, hq⟩, hb1⟩
      have bel1 : Hid (Below w.heap.size w w1) := hbel.out.trans (hb1.mono hbel.out.size)
      clear hb1 hbel WB
      rcases hq with rfl | ⟨q0', q1', hs⟩
      · go_wp2
        go_ret
        exact ⟨⟨-1, rfl, .inl rfl⟩, bel1.out⟩
      · have NY := NX.out hs
        have NY : Hid (∀ i (h : i < L.length), i < k + 1 → SmallX L[i]) := NY
        go_wp2
        go_roundw
        case rel => exact ⟨k + 1, q, by omega, q0', by omega, by go_num, rfl, NY.out, bel1.out⟩
        case measure => simp [intOf]; omega
    · have SM : Hid (Small L) := ⟨by have := HL.out; omega, fun i hi => hsm.out i hi (by have := HL.out; omega)⟩
      clear hN hsm
      go_wp2
      go_ret
      exact ⟨⟨m, rfl, .inr ⟨hm0, hm1, SM.out⟩⟩, hbel.out⟩
theorem toX_any (x : X) (a0 : Option Addr) (c0 : Nat) (w : World) (hh : Has 0 w x a0) (hsm : SmallX x) :
    Calls Tryz.prog 76 #[.slice a0 x.f0.length c0] w fun e w' => (∃ a0' c0', e = .returned (.slice a0' x.f0.length c0') ∧ Has w.heap.size w' x a0') ∧ Below w.heap.size w w' := by
  refine (Nodw.toXS_any a0 c0 x.f0 w hh.1 hsm).mono ?_
  rintro e w' ⟨⟨a', c', rfl, h⟩, hb⟩
  exact ⟨⟨a', c', rfl, h, hh.2⟩, hb⟩
/-- The first k lie in the new block; the rest of it can be written. -/
def Part (W : World) (B len : Nat) (L : List X) (k : Nat) : Prop :=
  (∀ i (h : i < L.length), i < k → At (B + 1) W B (i) L[i]) ∧ (∀ j, j < len → ∃ u, W.cell? ⟨B, j, none⟩ = some u) ∧ (∀ j, W.frozen? ⟨B, j, none⟩ = false) ∧ B < W.heap.size
theorem Part.kept {W W' : World} {B len k : Nat} {L : List X} (h : Part W B len L k) (hb : Below W.heap.size W W') : Part W' B len L k := by
  have hB := hb.block B h.2.2.2
  refine ⟨fun i hi hk => (h.1 i hi hk).kept hB (fun j _ hj => hb.block j hj) hb.size, fun j hj => ?_, fun j => ?_, Nat.lt_of_lt_of_le h.2.2.2 hb.size⟩
  · rw [World.cell?_of_block (a := ⟨B, j, none⟩) hB]; exact h.2.1 j hj
  · rw [World.frozen?_of_block (a := ⟨B, j, none⟩) hB]; exact h.2.2.1 j
theorem Part.set {W : World} {B len k o : Nat} {L : List X} (h : Part W B len L k) (ho : k ≤ o) (v : Value) : Part (W.setCell ⟨B, o, none⟩ v) B len L k := by
  have ne : ∀ i, i ≠ o → (W.setCell ⟨B, o, none⟩ v).cell? ⟨B, i, none⟩ = W.cell? ⟨B, i, none⟩ := fun i hi => World.cell?_setCell_other W _ _ _ (fun e => hi (by have := congrArg Addr.off e; exact this.symm))
  have hko : ∀ j, B + 1 ≤ j → j < W.heap.size → (W.setCell ⟨B, o, none⟩ v).heap[j]? = W.heap[j]? := fun j hj _ => Below.heap_setCell _ _ _ _ (by simp; omega)
  refine ⟨fun i hi hk => ?_, fun j hj => ?_, fun j => ?_, ?_⟩
  · obtain ⟨a0, c0, d0, hh⟩ := h.1 i hi hk
    have hlt : i + 0 < o := by have : i + 1 ≤ k := hk; omega
    exact ⟨a0, c0, (ne _ (by omega)).trans d0, hh.kept hko (by rw [World.size_setCell]; exact Nat.le_refl _)⟩
  · by_cases e : j = o
    · subst e
      obtain ⟨u, hu⟩ := h.2.1 j hj
      exact ⟨v, World.cell?_setCell_same W _ _ hu⟩
    · rw [ne j e]; exact h.2.1 j hj
  · rw [World.frozen?_setCell]; exact h.2.2.1 j
  · rw [World.size_setCell]; exact h.2.2.2
theorem Part.store {W : World} {B len k : Nat} {L : List X} (h : Part W B len L k) (hk : k < len) (hkL : k < L.length) (a0 : Option Addr) (c0 : Nat) (hh : Has (B + 1) W L[k] a0) : Part (W.setCell ⟨B, k, none⟩ (.slice a0 L[k].f0.length c0)) B len L (k + 1) := by
  have h1 := h.set (o := k) (by omega) (.slice a0 L[k].f0.length c0)
  refine ⟨fun i hi hik => ?_, h1.2.1, h1.2.2.1, h1.2.2.2⟩
  by_cases e : i = k
  · subst e
    obtain ⟨u0, hu0⟩ := h.2.1 (i) (by omega)
    refine ⟨a0, c0, ?_, ?_⟩
    · exact World.cell?_setCell_same _ _ _ hu0
    · refine hh.kept (fun j hj _ => ?_) (by simp only [World.size_setCell]; exact Nat.le_refl _)
      rw [Below.heap_setCell _ _ _ _ (by simp; omega)]
  · exact h1.1 i hi (by omega)
theorem infoX : (Tryz.prog.info? 67).map (fun i => (i.zero, i.size, i.bytes)) = some (some (.slice none 0 0), 1, 24) := by kernel_rfl
theorem Part.made (w : World) (len : Nat) (L : List X) (z : Array Value) (t : TypeId) : Part (w.alloc (.cells (madeCells z (len)) t)) w.heap.size len L 0 := by
  refine ⟨fun i _ h => absurd h (Nat.not_lt_zero _), fun j hj => ?_, fun j => ?_, by simp⟩
  · rw [World.cell?_alloc_new]
    exact ⟨_, Array.getElem?_eq_getElem (by rw [size_madeCells]; exact hj)⟩
  · exact World.frozen?_alloc_at _ _ _ _ rfl
theorem info_parts {P : Program} {t : TypeId} {z : Value} {s b : Nat} (h : (P.info? t).map (fun i => (i.zero, i.size, i.bytes)) = some (some z, s, b)) : ∃ i, P.info? t = some i ∧ i.zero = some z ∧ i.size = s ∧ i.bytes = b := by
  cases e : P.info? t with
  | none => rw [e] at h; cases h
  | some i =>
    rw [e] at h
    simp only [Option.map_some, Option.some.injEq, Prod.mk.injEq] at h
    exact ⟨i, rfl, h.1, h.2.1, h.2.2⟩
set_option maxHeartbeats 1000000 in
theorem toXS_any (a : Option Addr) (cap : Nat) (L : List X) (w : World) (hN : Row 0 w a L) (hsm : Small L) :
    Calls Tryz.prog 30 #[.slice a L.length cap] w fun e w' => (∃ (a' : Option Addr) (c' : Nat), e = .returned (.slice a' L.length c') ∧ Row w.heap.size w' a' L) ∧ Below w.heap.size w w' := by
  obtain ⟨i0, hi, hz0, hz1, hz2⟩ := info_parts infoX
  obtain ⟨len, hl⟩ : ∃ len, len = L.length := ⟨_, rfl⟩
  have HL : Hid (len = L.length) := hl
  have hlen := hsm.1
  have HSM : Hid (Small L) := hsm
  rw [← hl] at hlen ⊢
  clear hl hsm
  have hmk : ∀ u : World, (Instr.makeSlice 31 (.int .i64 (len : Int)) (.int .i64 (len : Int))).run Tryz.prog u =
      .ok (.slice (some ⟨u.heap.size, 0, none⟩) len len) (u.alloc (.cells (madeCells #[.slice none 0 0] (len)) 67)) := fun u => by
    have h := run_make (P := Tryz.prog) u 31 67 i0 (.slice none 0 0) Tryz.underlying31 hi hz0 .i64 .i64 (len : Int) (len : Int) (by omega) (Int.le_refl _) (by rw [hz2]; omega) (by omega)
    simpa [hz1, Value.cells] using h
  clear hz0 hz1 hz2 hi
  have P0 : Hid (∀ o, Part (w.alloc (.cells (madeCells #[.slice none 0 0] (len)) o)) w.heap.size len L 0) := fun o => Part.made w len L _ o
  go_enter Tryz.func30, Tryz.ntmps30
  go_wp2
  go_loopw [4] (fun i wr => ∃ k : Nat, k ≤ len ∧ i = .int .i64 k ∧ Hid (Part wr w.heap.size len L k) ∧ Hid (Below w.heap.size w wr)) (fun i _ => len - (intOf i).toNat)
  case atStart => exact ⟨0, Nat.zero_le _, rfl, P0.out _, (Below.refl _ _).alloc (Nat.le_refl _) _⟩
  case round =>
    obtain ⟨k, hk, rfl, hpart, hbel⟩ := hrel
    by_cases hlt : k < len
    · have hkL : k < L.length := by have := HL.out; omega
      rcases hN with hnil | ⟨b, off, rfl, _, hb, hc⟩
      · exfalso; rw [hnil] at hkL; exact absurd hkL (by simp)
      obtain ⟨a0, c0, d0, hh⟩ := (hc k hkL).kept (hbel.out.block b hb) (fun j _ hj => hbel.out.block j hj) hbel.out.size
      clear hc
      have S : Hid (∀ W (a0' : Option Addr) (c0' : Nat), Part W w.heap.size len L k → Has (w.heap.size + 1) W L[k] a0' → Part (W.setCell ⟨w.heap.size, k, none⟩ (.slice a0' L[k].f0.length c0')) w.heap.size len L (k + 1)) := fun W a0' c0' h h2 => h.store hlt hkL a0' c0' h2
      have ct := fun W (h : Has 0 W L[k] a0) => toX_any L[k] a0 c0 W h (HSM.out.2 k hkL)
      have HH : Hid (Has 0 wr L[k] a0) := hh
      clear hh
      generalize L[k] = x at *
      have HI : Hid (∀ N W (a0' : Option Addr), Has N W x a0' → Has N W x a0') := fun N W a0' h => h
      obtain ⟨HX, hHX⟩ : ∃ HX : Nat → World → Option Addr → Prop, HX = fun N W a0' => Has N W x a0' := ⟨_, rfl⟩
      have e1 : ∀ N W (a0' : Option Addr), (Has N W x a0') = HX N W a0' := fun N W a0' => by rw [hHX]
      have HM : Hid (∀ N N' W (a0' : Option Addr), HX N W a0' → N' ≤ N → HX N' W a0') := fun N N' W a0' h hN => by rw [← e1] at h ⊢; exact h.mono hN
      simp only [e1] at S ct HH
      clear HI e1 hHX
      obtain ⟨n0, hn0⟩ : ∃ n, n = x.f0.length := ⟨_, rfl⟩
      rw [← hn0] at d0
      simp only [← hn0] at S ct
      clear hn0
      go_wp2_with fail
      refine (ct _ HH.out).mono ?_
      rintro e w1 ⟨⟨a0', c0', rfl, hn⟩, hb1⟩
      have hp1 : Hid (Part w1 w.heap.size len L k) := hpart.out.kept hb1
      have hN1 : Hid (HX (w.heap.size + 1) w1 a0') := HM.out _ _ _ _ hn hpart.out.2.2.2
      have bel1 : Hid (Below w.heap.size w w1) := hbel.out.trans (hb1.mono hbel.out.size)
      obtain ⟨u0, x0⟩ := hp1.out.2.1 (k) (by omega)
      have g0 := hp1.out.2.2.1 (k)
      clear hb1 hbel hpart hn d0
      go_wp2
      go_roundw
      case rel => exact ⟨k + 1, by omega, by go_num, S.out _ _ _ hp1.out hN1.out, (bel1.out.setCell (Nat.le_refl _) _)⟩
      case measure => simp [intOf]; omega
    · have HE : Hid (Row w.heap.size wr (some ⟨w.heap.size, 0, none⟩) L) := .inr ⟨w.heap.size, 0, rfl, Nat.le_refl _, hpart.out.2.2.2, fun i hi => by
        obtain ⟨a0, c0, d0, hh⟩ := hpart.out.1 i hi (by have := HL.out; omega)
        rw [Nat.zero_add]
        exact ⟨a0, c0, d0, hh.mono (by omega)⟩⟩
      clear hN
      go_wp2
      go_ret
      exact ⟨⟨_, _, rfl, HE.out⟩, hbel.out⟩
theorem eqX_any (x : X) (a0 : Option Addr) (c0 : Nat) (a0' : Option Addr) (c0' : Nat) (w : World) (hh : Has 0 w x a0) (hh' : Has 0 w x a0') (hsm : SmallX x) :
    Calls Tryz.prog 86 #[.slice a0 x.f0.length c0, .slice a0' x.f0.length c0'] w fun e w' => e = .returned (.bool true) ∧ Below w.heap.size w w' := Nodw.eqXS_any a0 a0' c0 c0' x.f0 w hh.1 hh'.1 hsm
set_option maxHeartbeats 1000000 in
theorem eqXS_any (a a' : Option Addr) (cap cap' : Nat) (L : List X) (w : World) (hN : Row 0 w a L) (hN' : Row 0 w a' L) (hsm : Small L) :
    Calls Tryz.prog 39 #[.slice a L.length cap, .slice a' L.length cap'] w fun e w' => e = .returned (.bool true) ∧ Below w.heap.size w w' := by
  obtain ⟨len, hl⟩ : ∃ len, len = L.length := ⟨_, rfl⟩
  have HL : Hid (len = L.length) := hl
  have hlen := hsm.1
  have HSM : Hid (Small L) := hsm
  rw [← hl] at hlen ⊢
  clear hl hsm
  go_enter Tryz.func39, Tryz.ntmps39
  go_wp2
  go_loopw [5] (fun i wr => ∃ k : Nat, k ≤ len ∧ i = .int .i64 k ∧ Hid (Below w.heap.size w wr)) (fun i _ => len - (intOf i).toNat)
  case atStart => exact ⟨0, Nat.zero_le _, rfl, Below.refl _ _⟩
  case round =>
    obtain ⟨k, hk, rfl, hbel⟩ := hrel
    by_cases hlt : k < len
    · have hkL : k < L.length := by have := HL.out; omega
      rcases hN with hnil | ⟨b, off, rfl, _, hb, hc⟩
      · exfalso; rw [hnil] at hkL; exact absurd hkL (by simp)
      rcases hN' with hnil | ⟨b', off', rfl, _, hb', hc'⟩
      · exfalso; rw [hnil] at hkL; exact absurd hkL (by simp)
      obtain ⟨a0, c0, d0, hh⟩ := (hc k hkL).kept (hbel.out.block b hb) (fun j _ hj => hbel.out.block j hj) hbel.out.size
      obtain ⟨a0', c0', e0, hh'⟩ := (hc' k hkL).kept (hbel.out.block b' hb') (fun j _ hj => hbel.out.block j hj) hbel.out.size
      clear hc hc'
      have ce := fun W (h : Has 0 W L[k] a0) (h' : Has 0 W L[k] a0') => eqX_any L[k] a0 c0 a0' c0' W h h' (HSM.out.2 k hkL)
      have HH : Hid (∀ W, Below wr.heap.size wr W → Has 0 W L[k] a0 ∧ Has 0 W L[k] a0') := fun W h => ⟨hh.below h, hh'.below h⟩
      clear hh hh'
      generalize L[k] = x at *
      have HC : Hid (∀ W, Below wr.heap.size wr W → Calls Tryz.prog 86 #[.slice a0 x.f0.length c0, .slice a0' x.f0.length c0'] W fun e w' => e = .returned (.bool true) ∧ Below W.heap.size W w') := fun W h => ce W (HH.out W h).1 (HH.out W h).2
      clear ce HH
      obtain ⟨n0, hn0⟩ : ∃ n, n = x.f0.length := ⟨_, rfl⟩
      rw [← hn0] at d0 e0
      simp only [← hn0] at HC
      clear hn0
      have k0 : (0 : Int) ≤ (k : Int) := by omega
      have k1 : (k : Int) < (len : Int) := by omega
      go_wp2_with fail
      go_region_with (go_at_call 86; refine (HC.out _ ((Below.refl _ _).drew)).mono ?_; rintro e w1 ⟨rfl, hb1⟩)
      all_goals go_wp2
      all_goals
        go_roundw
        case rel => exact ⟨k + 1, by omega, by go_num, hbel.out.trans ((Mirror.below_of_drew hb1).mono hbel.out.size)⟩
        case measure => simp [intOf]; omega
    · clear hN hN'
      go_wp2
      go_ret
      exact ⟨rfl, hbel.out⟩
end Go.Proofs.YtplkglgaobdpiaaGreatDoor.Assr
