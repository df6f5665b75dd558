/-
  Contracts of ours for the laws' own helpers over Object: the datum, rows of it, sizes, the mirror's as the program's, equality. (Written by tools/mkrows.py.)
-/
import Derived.Test.YtplkglgaobdpiaaGreatDoorSecr
import Derived.Test.YtplkglgaobdpiaaGreatDoorOsyr
import Derived.Test.YtplkglgaobdpiaaGreatDoorAssr
import Derived.Deep.Strs
import Derived.Deep.RegionWith
import Derived.Deep.Cut
import Derived.Laws.Rows
import Derived.Laws.Tables
import Derived.Laws.CopyOwn
import Derived.WalkLawsBesides
namespace Go.Proofs.YtplkglgaobdpiaaGreatDoor.Objr
open Go.ChangeShapes Go.WideShapes Go.ChangeAt Go.RowKit Go.Deep
set_option linter.unusedVariables false
set_option linter.unusedSimpArgs false
set_option maxRecDepth 20000
structure X where
  f0 : List Secr.X
  f1 : List Osyr.X
  f2 : List Assr.X
instance : Inhabited X := ⟨⟨[], [], []⟩⟩
/-- What a struct's cells point at, all of it at N or above. -/
def Has (N : Nat) (w : World) (x : X) (a0 : Option Addr) (a1 : Option Addr) (a2 : Option Addr) : Prop := Secr.Row N w a0 x.f0 ∧ x.f0.length ≤ maxLen ∧ Osyr.Row N w a1 x.f1 ∧ x.f1.length ≤ maxLen ∧ Assr.Row N w a2 x.f2 ∧ x.f2.length ≤ maxLen
theorem Has.kept {N : Nat} {w w' : World} {x : X} {a0 : Option Addr} {a1 : Option Addr} {a2 : Option Addr} (h : Has N w x a0 a1 a2) (hk : ∀ k, N ≤ k → k < w.heap.size → w'.heap[k]? = w.heap[k]?) (hs : w.heap.size ≤ w'.heap.size) : Has N w' x a0 a1 a2 := by
  obtain ⟨h0, z0, h1, z1, h2, z2⟩ := h
  exact ⟨h0.kept hk hs, z0, h1.kept hk hs, z1, h2.kept hk hs, z2⟩
theorem Has.mono {N N' : Nat} {w : World} {x : X} {a0 : Option Addr} {a1 : Option Addr} {a2 : Option Addr} (h : Has N w x a0 a1 a2) (hN : N' ≤ N) : Has N' w x a0 a1 a2 := by
  obtain ⟨h0, z0, h1, z1, h2, z2⟩ := h
  exact ⟨h0.mono hN, z0, h1.mono hN, z1, h2.mono hN, z2⟩
theorem Has.below {N : Nat} {w w' : World} {x : X} {a0 : Option Addr} {a1 : Option Addr} {a2 : Option Addr} (h : Has N w x a0 a1 a2) (hb : Below w.heap.size w w') : Has N w' x a0 a1 a2 := h.kept (fun k _ hk => hb.block k hk) hb.size
theorem cellsX : Tryz.prog.cellsOf 26 = 3 := by kernel_rfl
theorem cells_0 : Tryz.prog.cellsOf 22 = 1 := by kernel_rfl
theorem cells_1 : Tryz.prog.cellsOf 23 = 1 := by kernel_rfl
theorem cells_2 : Tryz.prog.cellsOf 24 = 1 := by kernel_rfl
theorem fieldsX : ∃ f0 f1 f2 : Field, Tryz.prog.underlying 26 = some (.struct #[f0, f1, f2]) ∧ (f0.type = 22 ∧ f0.offset = 0) ∧ (f1.type = 23 ∧ f1.offset = 1) ∧ (f2.type = 24 ∧ f2.offset = 2) :=
  ⟨_, _, _, Tryz.underlying26, ⟨rfl, rfl⟩, ⟨rfl, rfl⟩, ⟨rfl, rfl⟩⟩
theorem x_of {H : Type} {enc : TypeId × Value → H} {w : World} {base : Nat} {spare : Nat → Bool} {held : Bool} {fuel : Nat} {cs : List Value} {x : DataW H × List MemPlace}
    (h : DataW.trod enc Tryz.prog w base spare held fuel 26 cs = some x) :
    ∃ (x : X) (a0 : Option Addr) (c0 : Nat) (a1 : Option Addr) (c1 : Nat) (a2 : Option Addr) (c2 : Nat), cs = [.slice a0 x.f0.length c0, .slice a1 x.f1.length c1, .slice a2 x.f2.length c2] ∧ Has 0 w x a0 a1 a2 := by
  obtain ⟨f0, f1, f2, hf, ⟨t0, o0⟩, ⟨t1, o1⟩, ⟨t2, o2⟩⟩ := fieldsX
  obtain ⟨xs, n, _, _, hl, hlen, g⟩ := DataW.trod_struct hf h
  rw [cellsX] at hl
  match cs, hl, xs, hlen with
  | [v0, v1, v2], _, [y0, y1, y2], _ =>
    have g0 := g 0 f0 rfl
    rw [t0, o0, cells_0] at g0
    have g1 := g 1 f1 rfl
    rw [t1, o1, cells_1] at g1
    have g2 := g 2 f2 rfl
    rw [t2, o2, cells_2] at g2
    obtain ⟨a0, len0, c0, q0, e0, l0, z0, r0⟩ := Secr.row_of g0
    obtain ⟨a1, len1, c1, q1, e1, l1, z1, r1⟩ := Osyr.row_of g1
    obtain ⟨a2, len2, c2, q2, e2, l2, z2, r2⟩ := Assr.row_of g2
    simp at e0 e1 e2
    subst e0 e1 e2
    subst l0
    subst l1
    subst l2
    exact ⟨⟨q0, q1, q2⟩, a0, c0, a1, c1, a2, c2, rfl, ⟨r0, z0, r1, z1, r2, z2⟩⟩
def SmallX (x : X) : Prop := Secr.Small x.f0 ∧ Osyr.Small x.f1 ∧ Assr.Small x.f2
set_option maxHeartbeats 1000000 in
theorem szX_any (x : X) (a0 : Option Addr) (c0 : Nat) (a1 : Option Addr) (c1 : Nat) (a2 : Option Addr) (c2 : Nat) (m : Int) (w : World) (hh : Has 0 w x a0 a1 a2) (h0 : 0 ≤ m) (h1 : m ≤ 1048576) :
    Calls Tryz.prog 6 #[.agg #[.slice a0 x.f0.length c0, .slice a1 x.f1.length c1, .slice a2 x.f2.length c2], .int .i64 m] w fun e w' => (∃ q : Int, e = .returned (.int .i64 q) ∧ (q = -1 ∨ (0 ≤ q ∧ q ≤ m ∧ SmallX x))) ∧ Below w.heap.size w w' := by
  obtain ⟨h0, z0, h1, z1, h2, z2⟩ := hh
  have HH0 : Hid (Secr.Row 0 w a0 x.f0) := h0
  have HH1 : Hid (Osyr.Row 0 w a1 x.f1) := h1
  have HH2 : Hid (Assr.Row 0 w a2 x.f2) := h2
  have SX : Hid (Secr.Small x.f0 → Osyr.Small x.f1 → Assr.Small x.f2 → SmallX x) := fun s0 s1 s2 => ⟨s0, s1, s2⟩
  have cr0 := fun m W h h0 h1 => Secr.szXS_any a0 c0 x.f0 m W h z0 h0 h1
  obtain ⟨S0, hS0⟩ : ∃ S : Prop, S = Secr.Small x.f0 := ⟨_, rfl⟩
  rw [← hS0] at SX
  simp only [← hS0] at cr0
  obtain ⟨n0, hn0⟩ : ∃ n, n = x.f0.length := ⟨_, rfl⟩
  rw [← hn0] at z0 ⊢
  simp only [← hn0] at cr0
  have cr1 := fun m W h h0 h1 => Osyr.szXS_any a1 c1 x.f1 m W h z1 h0 h1
  obtain ⟨S1, hS1⟩ : ∃ S : Prop, S = Osyr.Small x.f1 := ⟨_, rfl⟩
  rw [← hS1] at SX
  simp only [← hS1] at cr1
  obtain ⟨n1, hn1⟩ : ∃ n, n = x.f1.length := ⟨_, rfl⟩
  rw [← hn1] at z1 ⊢
  simp only [← hn1] at cr1
  have cr2 := fun m W h h0 h1 => Assr.szXS_any a2 c2 x.f2 m W h z2 h0 h1
  obtain ⟨S2, hS2⟩ : ∃ S : Prop, S = Assr.Small x.f2 := ⟨_, rfl⟩
  rw [← hS2] at SX
  simp only [← hS2] at cr2
  obtain ⟨n2, hn2⟩ : ∃ n, n = x.f2.length := ⟨_, rfl⟩
  rw [← hn2] at z2 ⊢
  simp only [← hn2] at cr2
  clear h0 h1 h2 hS0 hn0 hS1 hn1 hS2 hn2
  go_enter Tryz.func6, Tryz.ntmps6
  have WB : Hid (∀ o : Obj, Below w.heap.size w (w.alloc o)) := fun o => (Below.refl _ _).alloc (Nat.le_refl _) _
  go_wp2_with fail
  obtain ⟨W0, hW0⟩ : ∃ W0, W0 = w.alloc (.cells #[.slice a0 n0 c0, .slice a1 n1 c1, .slice a2 n2 c2] 26) := ⟨_, rfl⟩
  rw [← hW0]
  have HW : Hid (Below w.heap.size w W0) := by rw [hW0]; exact WB.out _
  have HX : Hid (∀ W', Below W0.heap.size W0 W' → W'.heap[w.heap.size]? = some (.cells #[.slice a0 n0 c0, .slice a1 n1 c1, .slice a2 n2 c2] 26)) := fun W' h => by
    rw [h.block _ (by rw [hW0]; simp), hW0]; exact (MapKept.heap_alloc w _).1
  clear hW0
  refine (cr0 _ _ (HH0.out.below HW.out) (by omega) (by omega)).mono ?_
  rintro e w0 ⟨⟨r0, rfl, hr0⟩, hb0⟩
  have B0 : Hid (Below w.heap.size w w0) := HW.out.trans (hb0.mono HW.out.size)
  have D0 : Hid (Below W0.heap.size W0 w0) := hb0
  clear hb0
  rcases hr0 with rfl | ⟨r0a, r0b, s0⟩
  · go_wp2
    go_ret
    exact ⟨⟨-1, rfl, .inl rfl⟩, B0.out⟩
  have x0_1 := cell_of_row w0 w.heap.size 1 _ _ _ (HX.out _ D0.out)
  have x0_1 : w0.cell? ⟨w.heap.size, 1, none⟩ = some (.slice a1 n1 c1) := x0_1
  have x0_2 := cell_of_row w0 w.heap.size 2 _ _ _ (HX.out _ D0.out)
  have x0_2 : w0.cell? ⟨w.heap.size, 2, none⟩ = some (.slice a2 n2 c2) := x0_2
  go_wp2_with fail
  refine (cr1 _ _ (HH1.out.below B0.out) (by omega) (by omega)).mono ?_
  rintro e w1 ⟨⟨r1, rfl, hr1⟩, hb1⟩
  have B1 : Hid (Below w.heap.size w w1) := B0.out.trans (hb1.mono B0.out.size)
  have D1 : Hid (Below W0.heap.size W0 w1) := D0.out.trans (hb1.mono D0.out.size)
  clear hb1
  rcases hr1 with rfl | ⟨r1a, r1b, s1⟩
  · go_wp2
    go_ret
    exact ⟨⟨-1, rfl, .inl rfl⟩, B1.out⟩
  have x1_2 := cell_of_row w1 w.heap.size 2 _ _ _ (HX.out _ D1.out)
  have x1_2 : w1.cell? ⟨w.heap.size, 2, none⟩ = some (.slice a2 n2 c2) := x1_2
  go_wp2_with fail
  refine (cr2 _ _ (HH2.out.below B1.out) (by omega) (by omega)).mono ?_
  rintro e w2 ⟨⟨r2, rfl, hr2⟩, hb2⟩
  have B2 : Hid (Below w.heap.size w w2) := B1.out.trans (hb2.mono B1.out.size)
  have D2 : Hid (Below W0.heap.size W0 w2) := D1.out.trans (hb2.mono D1.out.size)
  clear hb2
  rcases hr2 with rfl | ⟨r2a, r2b, s2⟩
  · go_wp2
    go_ret
    exact ⟨⟨-1, rfl, .inl rfl⟩, B2.out⟩
  go_wp2
  go_ret
  exact ⟨⟨_, rfl, .inr ⟨by omega, by omega, SX.out s0 s1 s2⟩⟩, B2.out⟩
set_option maxHeartbeats 2000000 in
theorem toX_any (x : X) (a0 : Option Addr) (c0 : Nat) (a1 : Option Addr) (c1 : Nat) (a2 : Option Addr) (c2 : Nat) (w : World) (hh : Has 0 w x a0 a1 a2) (hsm : SmallX x) :
    Calls Tryz.prog 8 #[.agg #[.slice a0 x.f0.length c0, .slice a1 x.f1.length c1, .slice a2 x.f2.length c2]] w fun e w' => (∃ a0' c0' a1' c1' a2' c2', e = .returned (.agg #[.slice a0' x.f0.length c0', .slice a1' x.f1.length c1', .slice a2' x.f2.length c2']) ∧ Has w.heap.size w' x a0' a1' a2') ∧ Below w.heap.size w w' := by
  obtain ⟨h0, z0, h1, z1, h2, z2⟩ := hh
  have HH0 : Hid (Secr.Row 0 w a0 x.f0) := h0
  have HH1 : Hid (Osyr.Row 0 w a1 x.f1) := h1
  have HH2 : Hid (Assr.Row 0 w a2 x.f2) := h2
  obtain ⟨s0, s1, s2⟩ := hsm
  have HS : Hid (∀ (N : Nat) (W : World) (a0' : Option Addr) (a1' : Option Addr) (a2' : Option Addr), Secr.Row N W a0' x.f0 → Osyr.Row N W a1' x.f1 → Assr.Row N W a2' x.f2 → Has N W x a0' a1' a2') := fun N W a0' a1' a2' k0 k1 k2 => ⟨k0, z0, k1, z1, k2, z2⟩
  have cr0 := fun W h => Secr.toXS_any a0 c0 x.f0 W h s0
  obtain ⟨n0, hn0⟩ : ∃ n, n = x.f0.length := ⟨_, rfl⟩
  rw [← hn0]
  simp only [← hn0] at cr0
  have cr1 := fun W h => Osyr.toXS_any a1 c1 x.f1 W h s1
  obtain ⟨n1, hn1⟩ : ∃ n, n = x.f1.length := ⟨_, rfl⟩
  rw [← hn1]
  simp only [← hn1] at cr1
  have cr2 := fun W h => Assr.toXS_any a2 c2 x.f2 W h s2
  obtain ⟨n2, hn2⟩ : ∃ n, n = x.f2.length := ⟨_, rfl⟩
  rw [← hn2]
  simp only [← hn2] at cr2
  clear hn0 hn1 hn2 h0 z0 h1 z1 h2 z2 s0 s1 s2
  have hiX : Hid ((Tryz.prog.info? 33).map (·.size) = some 3) := (by kernel_rfl : (Tryz.prog.info? 33).map (·.size) = some 3)
  go_enter Tryz.func8, Tryz.ntmps8
  go_wp2_with fail
  obtain ⟨W0, hW0⟩ : ∃ W0, W0 = ((w.alloc (.cells #[.slice a0 n0 c0, .slice a1 n1 c1, .slice a2 n2 c2] 26)).alloc (.cells #[.slice none 0 0, .slice none 0 0, .slice none 0 0] 33)).alloc (.cells #[.slice none 0 0, .slice none 0 0, .slice none 0 0] 33) := ⟨_, rfl⟩
  rw [← hW0]
  have Z0 : W0.heap.size = w.heap.size + 1 + 1 + 1 := by rw [hW0]; simp
  have B0 : Hid (Below w.heap.size w W0) := by rw [hW0]; exact (((Below.refl _ _).alloc (Nat.le_refl _) _).alloc (by simp) _).alloc (by simp; omega) _
  have G0 : Hid (W0.heap[w.heap.size]? = some (.cells #[.slice a0 n0 c0, .slice a1 n1 c1, .slice a2 n2 c2] 26)) := by
    show W0.heap[w.heap.size]? = _
    rw [hW0, Below.heap_alloc _ _ _ (by simp; omega), Below.heap_alloc _ _ _ (by simp)]; exact (MapKept.heap_alloc w _).1
  have R0 : Hid (W0.heap[w.heap.size + 1]? = some (.cells #[.slice none 0 0, .slice none 0 0, .slice none 0 0] 33 (0, 0))) := by
    show W0.heap[w.heap.size + 1]? = _
    have := (MapKept.heap_alloc (w.alloc (.cells #[.slice a0 n0 c0, .slice a1 n1 c1, .slice a2 n2 c2] 26)) (.cells #[.slice none 0 0, .slice none 0 0, .slice none 0 0] 33)).1
    rw [hW0, Below.heap_alloc _ _ _ (by simp)]
    simpa using this
  have O0 : Hid (W0.heap[w.heap.size + 1 + 1]? = some (.cells #[.slice none 0 0, .slice none 0 0, .slice none 0 0] 33 (0, 0))) := by
    show W0.heap[w.heap.size + 1 + 1]? = _
    have := (MapKept.heap_alloc ((w.alloc (.cells #[.slice a0 n0 c0, .slice a1 n1 c1, .slice a2 n2 c2] 26)).alloc (.cells #[.slice none 0 0, .slice none 0 0, .slice none 0 0] 33)) (.cells #[.slice none 0 0, .slice none 0 0, .slice none 0 0] 33)).1
    rw [hW0]
    simpa using this
  clear hW0
  refine (cr0 _ (HH0.out.below B0.out)).mono ?_
  rintro e w0 ⟨⟨a0', c0', rfl, hrow0⟩, hb0⟩
  have V0 : w.heap.size + 1 + 1 < w0.heap.size := by have := hb0.size; rw [Z0] at this; omega
  have Bn0 : Hid (Below w.heap.size w w0) := B0.out.trans (hb0.mono B0.out.size)
  have Gn0 : Hid (w0.heap[w.heap.size]? = some (.cells #[.slice a0 n0 c0, .slice a1 n1 c1, .slice a2 n2 c2] 26)) := (hb0.block _ (by rw [Z0]; omega)).trans G0.out
  have Rn0 : Hid (w0.heap[w.heap.size + 1]? = some (.cells #[.slice none 0 0, .slice none 0 0, .slice none 0 0] 33 (0, 0))) := (hb0.block _ (by rw [Z0]; omega)).trans R0.out
  have On0 : Hid (w0.heap[w.heap.size + 1 + 1]? = some (.cells #[.slice none 0 0, .slice none 0 0, .slice none 0 0] 33 (0, 0))) := (hb0.block _ (by rw [Z0]; omega)).trans O0.out
  have T0 : Hid (Secr.Row (w.heap.size + 1 + 1 + 1) w0 a0' x.f0) := hrow0.mono (by rw [Z0]; omega)
  have xo0 : w0.cell? ⟨w.heap.size + 1 + 1, 0, none⟩ = some (.slice none 0 0) := by rw [cell_of_row _ _ _ _ _ _ On0.out]; rfl
  have xf0 : w0.frozen? ⟨w.heap.size + 1 + 1, 0, none⟩ = false := frozen_of_row _ _ _ _ _ On0.out
  have Bs0 : Hid (Below w.heap.size w (w0.setCell ⟨w.heap.size + 1 + 1, 0, none⟩ (.slice a0' n0 c0'))) := Bn0.out.setCell (p := ⟨w.heap.size + 1 + 1, 0, none⟩) (show w.heap.size ≤ w.heap.size + 1 + 1 by omega) _
  have Gs0 : Hid ((w0.setCell ⟨w.heap.size + 1 + 1, 0, none⟩ (.slice a0' n0 c0')).heap[w.heap.size]? = some (.cells #[.slice a0 n0 c0, .slice a1 n1 c1, .slice a2 n2 c2] 26)) := (Below.heap_setCell _ _ _ _ (by simp; omega)).trans Gn0.out
  have Rs0 : Hid ((w0.setCell ⟨w.heap.size + 1 + 1, 0, none⟩ (.slice a0' n0 c0')).heap[w.heap.size + 1]? = some (.cells #[.slice none 0 0, .slice none 0 0, .slice none 0 0] 33 (0, 0))) := (Below.heap_setCell _ _ _ _ (by simp)).trans Rn0.out
  have Os0 : Hid ((w0.setCell ⟨w.heap.size + 1 + 1, 0, none⟩ (.slice a0' n0 c0')).heap[w.heap.size + 1 + 1]? = some (.cells #[.slice a0' n0 c0', .slice none 0 0, .slice none 0 0] 33 (0, 0))) := (heap_setCell_same _ _ _ _ _ _ On0.out).trans rfl
  have U0 : w.heap.size + 1 + 1 < (w0.setCell ⟨w.heap.size + 1 + 1, 0, none⟩ (.slice a0' n0 c0')).heap.size := by rw [World.size_setCell]; exact V0
  have T0s : Hid (Secr.Row (w.heap.size + 1 + 1 + 1) (w0.setCell ⟨w.heap.size + 1 + 1, 0, none⟩ (.slice a0' n0 c0')) a0' x.f0) := T0.out.kept (fun k hk _ => Below.heap_setCell _ _ _ _ (by simp; omega)) (by rw [World.size_setCell]; exact Nat.le_refl _)
  clear hb0 hrow0
  have xg0_1 : (w0.setCell ⟨w.heap.size + 1 + 1, 0, none⟩ (.slice a0' n0 c0')).cell? ⟨w.heap.size, 1, none⟩ = some (.slice a1 n1 c1) := by rw [cell_of_row _ _ _ _ _ _ Gs0.out]; rfl
  have xg0_2 : (w0.setCell ⟨w.heap.size + 1 + 1, 0, none⟩ (.slice a0' n0 c0')).cell? ⟨w.heap.size, 2, none⟩ = some (.slice a2 n2 c2) := by rw [cell_of_row _ _ _ _ _ _ Gs0.out]; rfl
  go_wp2_with fail
  refine (cr1 _ (HH1.out.below Bs0.out)).mono ?_
  rintro e w1 ⟨⟨a1', c1', rfl, hrow1⟩, hb1⟩
  have V1 : w.heap.size + 1 + 1 < w1.heap.size := by have := hb1.size; have hz := U0; simp at this; omega
  have Bn1 : Hid (Below w.heap.size w w1) := Bs0.out.trans (hb1.mono Bs0.out.size)
  have Gn1 : Hid (w1.heap[w.heap.size]? = some (.cells #[.slice a0 n0 c0, .slice a1 n1 c1, .slice a2 n2 c2] 26)) := (hb1.block _ (by have hz := U0; simp; omega)).trans Gs0.out
  have Rn1 : Hid (w1.heap[w.heap.size + 1]? = some (.cells #[.slice none 0 0, .slice none 0 0, .slice none 0 0] 33 (0, 0))) := (hb1.block _ (by have hz := U0; simp; omega)).trans Rs0.out
  have On1 : Hid (w1.heap[w.heap.size + 1 + 1]? = some (.cells #[.slice a0' n0 c0', .slice none 0 0, .slice none 0 0] 33 (0, 0))) := (hb1.block _ (by have hz := U0; simp; omega)).trans Os0.out
  have T1 : Hid (Osyr.Row (w.heap.size + 1 + 1 + 1) w1 a1' x.f1) := hrow1.mono (by have hz := U0; simp; omega)
  have T0s_1 : Hid (Secr.Row (w.heap.size + 1 + 1 + 1) w1 a0' x.f0) := T0s.out.below hb1
  have xo1 : w1.cell? ⟨w.heap.size + 1 + 1, 1, none⟩ = some (.slice none 0 0) := by rw [cell_of_row _ _ _ _ _ _ On1.out]; rfl
  have xf1 : w1.frozen? ⟨w.heap.size + 1 + 1, 1, none⟩ = false := frozen_of_row _ _ _ _ _ On1.out
  have Bs1 : Hid (Below w.heap.size w (w1.setCell ⟨w.heap.size + 1 + 1, 1, none⟩ (.slice a1' n1 c1'))) := Bn1.out.setCell (p := ⟨w.heap.size + 1 + 1, 1, none⟩) (show w.heap.size ≤ w.heap.size + 1 + 1 by omega) _
  have Gs1 : Hid ((w1.setCell ⟨w.heap.size + 1 + 1, 1, none⟩ (.slice a1' n1 c1')).heap[w.heap.size]? = some (.cells #[.slice a0 n0 c0, .slice a1 n1 c1, .slice a2 n2 c2] 26)) := (Below.heap_setCell _ _ _ _ (by simp; omega)).trans Gn1.out
  have Rs1 : Hid ((w1.setCell ⟨w.heap.size + 1 + 1, 1, none⟩ (.slice a1' n1 c1')).heap[w.heap.size + 1]? = some (.cells #[.slice none 0 0, .slice none 0 0, .slice none 0 0] 33 (0, 0))) := (Below.heap_setCell _ _ _ _ (by simp)).trans Rn1.out
  have Os1 : Hid ((w1.setCell ⟨w.heap.size + 1 + 1, 1, none⟩ (.slice a1' n1 c1')).heap[w.heap.size + 1 + 1]? = some (.cells #[.slice a0' n0 c0', .slice a1' n1 c1', .slice none 0 0] 33 (0, 0))) := (heap_setCell_same _ _ _ _ _ _ On1.out).trans rfl
  have U1 : w.heap.size + 1 + 1 < (w1.setCell ⟨w.heap.size + 1 + 1, 1, none⟩ (.slice a1' n1 c1')).heap.size := by rw [World.size_setCell]; exact V1
  have T0s_1s : Hid (Secr.Row (w.heap.size + 1 + 1 + 1) (w1.setCell ⟨w.heap.size + 1 + 1, 1, none⟩ (.slice a1' n1 c1')) a0' x.f0) := T0s_1.out.kept (fun k hk _ => Below.heap_setCell _ _ _ _ (by simp; omega)) (by rw [World.size_setCell]; exact Nat.le_refl _)
  have T1s : Hid (Osyr.Row (w.heap.size + 1 + 1 + 1) (w1.setCell ⟨w.heap.size + 1 + 1, 1, none⟩ (.slice a1' n1 c1')) a1' x.f1) := T1.out.kept (fun k hk _ => Below.heap_setCell _ _ _ _ (by simp; omega)) (by rw [World.size_setCell]; exact Nat.le_refl _)
  clear hb1 hrow1
  have xg1_2 : (w1.setCell ⟨w.heap.size + 1 + 1, 1, none⟩ (.slice a1' n1 c1')).cell? ⟨w.heap.size, 2, none⟩ = some (.slice a2 n2 c2) := by rw [cell_of_row _ _ _ _ _ _ Gs1.out]; rfl
  go_wp2_with fail
  refine (cr2 _ (HH2.out.below Bs1.out)).mono ?_
  rintro e w2 ⟨⟨a2', c2', rfl, hrow2⟩, hb2⟩
  have V2 : w.heap.size + 1 + 1 < w2.heap.size := by have := hb2.size; have hz := U1; simp at this; omega
  have Bn2 : Hid (Below w.heap.size w w2) := Bs1.out.trans (hb2.mono Bs1.out.size)
  have Gn2 : Hid (w2.heap[w.heap.size]? = some (.cells #[.slice a0 n0 c0, .slice a1 n1 c1, .slice a2 n2 c2] 26)) := (hb2.block _ (by have hz := U1; simp; omega)).trans Gs1.out
  have Rn2 : Hid (w2.heap[w.heap.size + 1]? = some (.cells #[.slice none 0 0, .slice none 0 0, .slice none 0 0] 33 (0, 0))) := (hb2.block _ (by have hz := U1; simp; omega)).trans Rs1.out
  have On2 : Hid (w2.heap[w.heap.size + 1 + 1]? = some (.cells #[.slice a0' n0 c0', .slice a1' n1 c1', .slice none 0 0] 33 (0, 0))) := (hb2.block _ (by have hz := U1; simp; omega)).trans Os1.out
  have T2 : Hid (Assr.Row (w.heap.size + 1 + 1 + 1) w2 a2' x.f2) := hrow2.mono (by have hz := U1; simp; omega)
  have T0s_1s_2 : Hid (Secr.Row (w.heap.size + 1 + 1 + 1) w2 a0' x.f0) := T0s_1s.out.below hb2
  have T1s_2 : Hid (Osyr.Row (w.heap.size + 1 + 1 + 1) w2 a1' x.f1) := T1s.out.below hb2
  have xo2 : w2.cell? ⟨w.heap.size + 1 + 1, 2, none⟩ = some (.slice none 0 0) := by rw [cell_of_row _ _ _ _ _ _ On2.out]; rfl
  have xf2 : w2.frozen? ⟨w.heap.size + 1 + 1, 2, none⟩ = false := frozen_of_row _ _ _ _ _ On2.out
  have Bs2 : Hid (Below w.heap.size w (w2.setCell ⟨w.heap.size + 1 + 1, 2, none⟩ (.slice a2' n2 c2'))) := Bn2.out.setCell (p := ⟨w.heap.size + 1 + 1, 2, none⟩) (show w.heap.size ≤ w.heap.size + 1 + 1 by omega) _
  have Gs2 : Hid ((w2.setCell ⟨w.heap.size + 1 + 1, 2, none⟩ (.slice a2' n2 c2')).heap[w.heap.size]? = some (.cells #[.slice a0 n0 c0, .slice a1 n1 c1, .slice a2 n2 c2] 26)) := (Below.heap_setCell _ _ _ _ (by simp; omega)).trans Gn2.out
  have Rs2 : Hid ((w2.setCell ⟨w.heap.size + 1 + 1, 2, none⟩ (.slice a2' n2 c2')).heap[w.heap.size + 1]? = some (.cells #[.slice none 0 0, .slice none 0 0, .slice none 0 0] 33 (0, 0))) := (Below.heap_setCell _ _ _ _ (by simp)).trans Rn2.out
  have Os2 : Hid ((w2.setCell ⟨w.heap.size + 1 + 1, 2, none⟩ (.slice a2' n2 c2')).heap[w.heap.size + 1 + 1]? = some (.cells #[.slice a0' n0 c0', .slice a1' n1 c1', .slice a2' n2 c2'] 33 (0, 0))) := (heap_setCell_same _ _ _ _ _ _ On2.out).trans rfl
  have U2 : w.heap.size + 1 + 1 < (w2.setCell ⟨w.heap.size + 1 + 1, 2, none⟩ (.slice a2' n2 c2')).heap.size := by rw [World.size_setCell]; exact V2
  have T0s_1s_2s : Hid (Secr.Row (w.heap.size + 1 + 1 + 1) (w2.setCell ⟨w.heap.size + 1 + 1, 2, none⟩ (.slice a2' n2 c2')) a0' x.f0) := T0s_1s_2.out.kept (fun k hk _ => Below.heap_setCell _ _ _ _ (by simp; omega)) (by rw [World.size_setCell]; exact Nat.le_refl _)
  have T1s_2s : Hid (Osyr.Row (w.heap.size + 1 + 1 + 1) (w2.setCell ⟨w.heap.size + 1 + 1, 2, none⟩ (.slice a2' n2 c2')) a1' x.f1) := T1s_2.out.kept (fun k hk _ => Below.heap_setCell _ _ _ _ (by simp; omega)) (by rw [World.size_setCell]; exact Nat.le_refl _)
  have T2s : Hid (Assr.Row (w.heap.size + 1 + 1 + 1) (w2.setCell ⟨w.heap.size + 1 + 1, 2, none⟩ (.slice a2' n2 c2')) a2' x.f2) := T2.out.kept (fun k hk _ => Below.heap_setCell _ _ _ _ (by simp; omega)) (by rw [World.size_setCell]; exact Nat.le_refl _)
  clear hb2 hrow2
  go_upto_region 5 with fail
  refine wp_region_list ?_
  refine wpList_load_row rfl 33 _ rfl (w.heap.size + 1 + 1) rfl _ _ (0, 0) _ Os2.out Tryz.underlying33 rfl hiX.out ?_
  refine wpList_store_row rfl 33 _ _ rfl (w.heap.size + 1) #[.slice a0' n0 c0', .slice a1' n1 c1', .slice a2' n2 c2'] rfl rfl _ _ Rs2.out hiX.out rfl (by simp [Value.oneCell']) ?_
  refine wpList_nil ?_
  go_wp2
  refine bodyPost_ret (v := .agg #[.slice a0' n0 c0', .slice a1' n1 c1', .slice a2' n2 c2']) (results_cell_row Tryz.results8 _ _ (w.heap.size + 1) _ _ (0, 0) _ rfl (setRow_heap _ _ _ _ _ _ Rs2.out) Tryz.underlying33 rfl hiX.out) rfl ⟨⟨a0', c0', a1', c1', a2', c2', rfl, HS.out _ _ _ _ _ ((T0s_1s_2s.out.kept (fun k hk _ => setRow_other _ _ _ _ (by omega)) (by rw [setRow_size]; exact Nat.le_refl _)).mono (by omega)) ((T1s_2s.out.kept (fun k hk _ => setRow_other _ _ _ _ (by omega)) (by rw [setRow_size]; exact Nat.le_refl _)).mono (by omega)) ((T2s.out.kept (fun k hk _ => setRow_other _ _ _ _ (by omega)) (by rw [setRow_size]; exact Nat.le_refl _)).mono (by omega))⟩, ?_⟩
  exact below_setRow Bs2.out (by omega) _
set_option maxHeartbeats 1000000 in
theorem eqX_any (x : X) (a0 : Option Addr) (c0 : Nat) (a1 : Option Addr) (c1 : Nat) (a2 : Option Addr) (c2 : Nat) (a0' : Option Addr) (c0' : Nat) (a1' : Option Addr) (c1' : Nat) (a2' : Option Addr) (c2' : Nat) (w : World) (hh : Has 0 w x a0 a1 a2) (hh' : Has 0 w x a0' a1' a2') (hsm : SmallX x) :
    Calls Tryz.prog 10 #[.agg #[.slice a0 x.f0.length c0, .slice a1 x.f1.length c1, .slice a2 x.f2.length c2], .agg #[.slice a0' x.f0.length c0', .slice a1' x.f1.length c1', .slice a2' x.f2.length c2']] w fun e w' => e = .returned (.bool true) ∧ Below w.heap.size w w' := by
  obtain ⟨h0, z0, h1, z1, h2, z2⟩ := hh
  obtain ⟨h0', z0', h1', z1', h2', z2'⟩ := hh'
  obtain ⟨s0, s1, s2⟩ := hsm
  have cr0 := fun W h h' => Secr.eqXS_any a0 a0' c0 c0' x.f0 W h h' s0
  have HH0 : Hid (Secr.Row 0 w a0 x.f0) := h0
  have HH0' : Hid (Secr.Row 0 w a0' x.f0) := h0'
  obtain ⟨n0, hn0⟩ : ∃ n, n = x.f0.length := ⟨_, rfl⟩
  rw [← hn0]
  simp only [← hn0] at cr0
  have cr1 := fun W h h' => Osyr.eqXS_any a1 a1' c1 c1' x.f1 W h h' s1
  have HH1 : Hid (Osyr.Row 0 w a1 x.f1) := h1
  have HH1' : Hid (Osyr.Row 0 w a1' x.f1) := h1'
  obtain ⟨n1, hn1⟩ : ∃ n, n = x.f1.length := ⟨_, rfl⟩
  rw [← hn1]
  simp only [← hn1] at cr1
  have cr2 := fun W h h' => Assr.eqXS_any a2 a2' c2 c2' x.f2 W h h' s2
  have HH2 : Hid (Assr.Row 0 w a2 x.f2) := h2
  have HH2' : Hid (Assr.Row 0 w a2' x.f2) := h2'
  obtain ⟨n2, hn2⟩ : ∃ n, n = x.f2.length := ⟨_, rfl⟩
  rw [← hn2]
  simp only [← hn2] at cr2
  clear hn0 hn1 hn2 h0 z0 h1 z1 h2 z2 h0' z0' h1' z1' h2' z2' s0 s1 s2
  have WB : Hid (∀ o o' : Obj, Below w.heap.size w ((w.alloc o).alloc o')) := fun o o' => ((Below.refl _ _).alloc (Nat.le_refl _) _).alloc (by simp) _
  go_enter Tryz.func10, Tryz.ntmps10
  go_wp2_with fail
  obtain ⟨W0, hW0⟩ : ∃ W0, W0 = (w.alloc (.cells #[.slice a0 n0 c0, .slice a1 n1 c1, .slice a2 n2 c2] 33)).alloc (.cells #[.slice a0' n0 c0', .slice a1' n1 c1', .slice a2' n2 c2'] 33) := ⟨_, rfl⟩
  rw [← hW0]
  have B0 : Hid (Below w.heap.size w W0) := by rw [hW0]; exact WB.out _ _
  have Z0 : W0.heap.size = w.heap.size + 1 + 1 := by rw [hW0]; simp
  have G0 : Hid (W0.heap[w.heap.size]? = some (.cells #[.slice a0 n0 c0, .slice a1 n1 c1, .slice a2 n2 c2] 33)) := by
    show W0.heap[w.heap.size]? = _
    rw [hW0, Below.heap_alloc _ _ _ (by simp)]; exact (MapKept.heap_alloc w _).1
  have R0 : Hid (W0.heap[w.heap.size + 1]? = some (.cells #[.slice a0' n0 c0', .slice a1' n1 c1', .slice a2' n2 c2'] 33)) := by
    show W0.heap[w.heap.size + 1]? = _
    have := (MapKept.heap_alloc (w.alloc (.cells #[.slice a0 n0 c0, .slice a1 n1 c1, .slice a2 n2 c2] 33)) (.cells #[.slice a0' n0 c0', .slice a1' n1 c1', .slice a2' n2 c2'] 33)).1
    rw [hW0]
    simpa using this
  clear hW0
  refine (cr0 _ (HH0.out.below B0.out) (HH0'.out.below B0.out)).mono ?_
  rintro e w0 ⟨rfl, hb0⟩
  have B0n : Hid (Below w.heap.size w w0) := B0.out.trans (hb0.mono B0.out.size)
  have V0 : w.heap.size + 1 < w0.heap.size := by have := hb0.size; rw [Z0] at this; omega
  have G0n : Hid (w0.heap[w.heap.size]? = some (.cells #[.slice a0 n0 c0, .slice a1 n1 c1, .slice a2 n2 c2] 33)) := (hb0.block _ (by rw [Z0]; omega)).trans G0.out
  have R0n : Hid (w0.heap[w.heap.size + 1]? = some (.cells #[.slice a0' n0 c0', .slice a1' n1 c1', .slice a2' n2 c2'] 33)) := (hb0.block _ (by rw [Z0]; omega)).trans R0.out
  clear hb0
  have xa0_1 : w0.cell? ⟨w.heap.size, 1, none⟩ = some (.slice a1 n1 c1) := by rw [cell_of_row _ _ _ _ _ _ G0n.out]; rfl
  have xb0_1 : w0.cell? ⟨w.heap.size + 1, 1, none⟩ = some (.slice a1' n1 c1') := by rw [cell_of_row _ _ _ _ _ _ R0n.out]; rfl
  have xa0_2 : w0.cell? ⟨w.heap.size, 2, none⟩ = some (.slice a2 n2 c2) := by rw [cell_of_row _ _ _ _ _ _ G0n.out]; rfl
  have xb0_2 : w0.cell? ⟨w.heap.size + 1, 2, none⟩ = some (.slice a2' n2 c2') := by rw [cell_of_row _ _ _ _ _ _ R0n.out]; rfl
  go_wp2_with fail
  refine (cr1 _ (HH1.out.below B0n.out) (HH1'.out.below B0n.out)).mono ?_
  rintro e w1 ⟨rfl, hb1⟩
  have B1n : Hid (Below w.heap.size w w1) := B0n.out.trans (hb1.mono B0n.out.size)
  have V1 : w.heap.size + 1 < w1.heap.size := by have := hb1.size; have hz := V0; omega
  have G1n : Hid (w1.heap[w.heap.size]? = some (.cells #[.slice a0 n0 c0, .slice a1 n1 c1, .slice a2 n2 c2] 33)) := (hb1.block _ (by have hz := V0; omega)).trans G0n.out
  have R1n : Hid (w1.heap[w.heap.size + 1]? = some (.cells #[.slice a0' n0 c0', .slice a1' n1 c1', .slice a2' n2 c2'] 33)) := (hb1.block _ (by have hz := V0; omega)).trans R0n.out
  clear hb1
  have xa1_2 : w1.cell? ⟨w.heap.size, 2, none⟩ = some (.slice a2 n2 c2) := by rw [cell_of_row _ _ _ _ _ _ G1n.out]; rfl
  have xb1_2 : w1.cell? ⟨w.heap.size + 1, 2, none⟩ = some (.slice a2' n2 c2') := by rw [cell_of_row _ _ _ _ _ _ R1n.out]; rfl
  go_wp2_with fail
  refine (cr2 _ (HH2.out.below B1n.out) (HH2'.out.below B1n.out)).mono ?_
  rintro e w2 ⟨rfl, hb2⟩
  have B2n : Hid (Below w.heap.size w w2) := B1n.out.trans (hb2.mono B1n.out.size)
  have V2 : w.heap.size + 1 < w2.heap.size := by have := hb2.size; have hz := V1; omega
  have G2n : Hid (w2.heap[w.heap.size]? = some (.cells #[.slice a0 n0 c0, .slice a1 n1 c1, .slice a2 n2 c2] 33)) := (hb2.block _ (by have hz := V1; omega)).trans G1n.out
  have R2n : Hid (w2.heap[w.heap.size + 1]? = some (.cells #[.slice a0' n0 c0', .slice a1' n1 c1', .slice a2' n2 c2'] 33)) := (hb2.block _ (by have hz := V1; omega)).trans R1n.out
  clear hb2
  go_wp2
  go_ret
  exact ⟨rfl, B2n.out⟩
end Go.Proofs.YtplkglgaobdpiaaGreatDoor.Objr
