/-
  Contracts of ours for the laws' own helpers over Patch: the datum, rows of it, sizes, the mirror's as the program's, equality. (Written by tools/mkrows.py.)
-/
import Derived.Test.YtplkglgaobdpiaaGreatDoorNodw
import Derived.Deep.Strs
import Derived.Deep.RegionWith
import Derived.Deep.Cut
import Derived.Laws.Rows
import Derived.Laws.Tables
import Derived.Laws.CopyOwn
import Derived.WalkLawsBesides
namespace Go.Proofs.YtplkglgaobdpiaaGreatDoor.Patr
open Go.ChangeShapes Go.WideShapes Go.ChangeAt Go.RowKit Go.Deep
set_option linter.unusedVariables false
set_option linter.unusedSimpArgs false
set_option maxRecDepth 20000
structure X where
  f0 : Int
  f1 : Int
  f2 : List Stepx.Node
instance : Inhabited X := ⟨⟨0, 0, []⟩⟩
/-- What a struct's cells point at, all of it at N or above. -/
def Has (N : Nat) (w : World) (x : X) (a2 : Option Addr) : Prop := Nodw.Row N w a2 x.f2 ∧ x.f2.length ≤ maxLen
theorem Has.kept {N : Nat} {w w' : World} {x : X} {a2 : Option Addr} (h : Has N w x a2) (hk : ∀ k, N ≤ k → k < w.heap.size → w'.heap[k]? = w.heap[k]?) (hs : w.heap.size ≤ w'.heap.size) : Has N w' x a2 := by
  obtain ⟨h2, z2⟩ := h
  exact ⟨h2.kept hk hs, z2⟩
theorem Has.mono {N N' : Nat} {w : World} {x : X} {a2 : Option Addr} (h : Has N w x a2) (hN : N' ≤ N) : Has N' w x a2 := by
  obtain ⟨h2, z2⟩ := h
  exact ⟨h2.mono hN, z2⟩
theorem Has.below {N : Nat} {w w' : World} {x : X} {a2 : Option Addr} (h : Has N w x a2) (hb : Below w.heap.size w w') : Has N w' x a2 := h.kept (fun k _ hk => hb.block k hk) hb.size
/-- One lies there. -/
def At (N : Nat) (w : World) (b o : Nat) (x : X) : Prop := ∃ a2 c2, w.cell? ⟨b, o, none⟩ = some (.int .i64 x.f0) ∧ w.cell? ⟨b, o + 1, none⟩ = some (.int .i64 x.f1) ∧ w.cell? ⟨b, o + 2, none⟩ = some (.slice a2 x.f2.length c2) ∧ Has N w x a2
theorem At.kept {N : Nat} {w w' : World} {b o : Nat} {x : X} (h : At N w b o x) (hb : w'.heap[b]? = w.heap[b]?) (hk : ∀ k, N ≤ k → k < w.heap.size → w'.heap[k]? = w.heap[k]?) (hs : w.heap.size ≤ w'.heap.size) : At N w' b o x := by
  obtain ⟨a2, c2, d0, d1, d2, hh⟩ := h
  have e : ∀ i, w'.cell? ⟨b, i, none⟩ = w.cell? ⟨b, i, none⟩ := fun i => World.cell?_of_block (a := ⟨b, i, none⟩) hb
  exact ⟨a2, c2, (e _).trans d0, (e _).trans d1, (e _).trans d2, hh.kept hk hs⟩
/-- A row of them lies there, all of it at N or above. -/
def Row (N : Nat) (w : World) (a : Option Addr) (L : List X) : Prop :=
  L = [] ∨ ∃ b off, a = some ⟨b, off, none⟩ ∧ N ≤ b ∧ b < w.heap.size ∧ ∀ i (h : i < L.length), At N w b (off + i * 3) L[i]
theorem Row.kept {N : Nat} {w w' : World} {a : Option Addr} {L : List X} (h : Row N w a L) (hk : ∀ k, N ≤ k → k < w.heap.size → w'.heap[k]? = w.heap[k]?) (hs : w.heap.size ≤ w'.heap.size) : Row N w' a L := by
  rcases h with h | ⟨b, off, ha, hN, hl, hc⟩
  · exact .inl h
  · exact .inr ⟨b, off, ha, hN, Nat.lt_of_lt_of_le hl hs, fun i hi => (hc i hi).kept (hk b hN hl) hk hs⟩
theorem Row.mono {N N' : Nat} {w : World} {a : Option Addr} {L : List X} (h : Row N w a L) (hN : N' ≤ N) : Row N' w a L := by
  rcases h with h | ⟨b, off, ha, hNb, hl, hc⟩
  · exact .inl h
  · exact .inr ⟨b, off, ha, by omega, hl, fun i hi => by obtain ⟨a2, c2, d0, d1, d2, hh⟩ := hc i hi; exact ⟨a2, c2, d0, d1, d2, hh.mono hN⟩⟩
theorem Row.below {N : Nat} {w w' : World} {a : Option Addr} {L : List X} (h : Row N w a L) (hb : Below w.heap.size w w') : Row N w' a L := h.kept (fun k _ hk => hb.block k hk) hb.size
theorem cellsX : Tryz.prog.cellsOf 187 = 3 := by kernel_rfl
theorem cells_0 : Tryz.prog.cellsOf 2 = 1 := by kernel_rfl
theorem cells_1 : Tryz.prog.cellsOf 2 = 1 := by kernel_rfl
theorem cells_2 : Tryz.prog.cellsOf 106 = 1 := by kernel_rfl
theorem fieldsX : ∃ f0 f1 f2 : Field, Tryz.prog.underlying 187 = some (.struct #[f0, f1, f2]) ∧ (f0.type = 2 ∧ f0.offset = 0) ∧ (f1.type = 2 ∧ f1.offset = 1) ∧ (f2.type = 106 ∧ f2.offset = 2) :=
  ⟨_, _, _, Tryz.underlying187, ⟨rfl, rfl⟩, ⟨rfl, rfl⟩, ⟨rfl, rfl⟩⟩
theorem x_of {H : Type} {enc : TypeId × Value → H} {w : World} {base : Nat} {spare : Nat → Bool} {held : Bool} {fuel : Nat} {cs : List Value} {x : DataW H × List MemPlace}
    (h : DataW.trod enc Tryz.prog w base spare held fuel 187 cs = some x) :
    ∃ (x : X) (a2 : Option Addr) (c2 : Nat), cs = [.int .i64 x.f0, .int .i64 x.f1, .slice a2 x.f2.length c2] ∧ Has 0 w x a2 := by
  obtain ⟨f0, f1, f2, hf, ⟨t0, o0⟩, ⟨t1, o1⟩, ⟨t2, o2⟩⟩ := fieldsX
  obtain ⟨xs, n, _, _, hl, hlen, g⟩ := DataW.trod_struct hf h
  rw [cellsX] at hl
  match cs, hl, xs, hlen with
  | [v0, v1, v2], _, [y0, y1, y2], _ =>
    have g0 := g 0 f0 rfl
    rw [t0, o0, cells_0] at g0
    have g1 := g 1 f1 rfl
    rw [t1, o1, cells_1] at g1
    have g2 := g 2 f2 rfl
    rw [t2, o2, cells_2] at g2
    obtain ⟨q0, e0, _⟩ := DataW.trod_int Tryz.underlying2 g0
    obtain ⟨q1, e1, _⟩ := DataW.trod_int Tryz.underlying2 g1
    obtain ⟨a2, len2, c2, q2, e2, l2, z2, r2⟩ := Nodw.row_of g2
    simp at e0 e1 e2
    subst e0 e1 e2
    subst l2
    exact ⟨⟨q0, q1, q2⟩, a2, c2, rfl, ⟨r2, z2⟩⟩
theorem row_of {H : Type} {enc : TypeId × Value → H} {w : World} {base : Nat} {spare : Nat → Bool} {held : Bool} {fuel : Nat} {cs : List Value} {x : DataW H × List MemPlace}
    (h : DataW.trod enc Tryz.prog w base spare held fuel 100 cs = some x) : ∃ a len cap L, cs = [.slice a len cap] ∧ L.length = len ∧ len ≤ maxLen ∧ Row 0 w a L := by
  rcases open_slice Tryz.underlying100 h with ⟨rfl, _⟩ | ⟨a, len, cap, m, n, D, Pl, rfl, hb, hl, hm, hmm, rfl, hx⟩
  · exact ⟨none, 0, 0, [], rfl, rfl, Nat.zero_le _, .inl rfl⟩
  have hlm : len ≤ m := by rw [hmm]; split <;> omega
  have each : ∀ i, i < len → ∃ q : X, ∃ a2 c2, w.cell? (a.add (i * 3)) = some (.int .i64 q.f0) ∧ w.cell? (a.add (i * 3 + 1)) = some (.int .i64 q.f1) ∧ w.cell? (a.add (i * 3 + 2)) = some (.slice a2 q.f2.length c2) ∧ Has 0 w q a2 := by
    intro i hi
    obtain ⟨cs', h1, h2⟩ := hx i (by omega)
    rw [cellsX] at h1
    obtain ⟨_, hlen, hcell⟩ := World.cells?_some h1
    obtain ⟨q, a2, c2, rfl, hh⟩ := x_of h2
    have d0 := hcell 0 (by simp)
    have d1 := hcell 1 (by simp)
    have d2 := hcell 2 (by simp)
    rw [add_add] at d0 d1 d2
    exact ⟨q, a2, c2, by simpa using d0, by simpa using d1, by simpa using d2, hh⟩
  obtain ⟨q, hq⟩ := choose_lt each
  refine ⟨some a, len, cap, (List.range len).map q, rfl, by simp, by omega, ?_⟩
  by_cases h0 : len = 0
  · subst h0; exact .inl rfl
  obtain ⟨b, off, spot⟩ := a
  obtain ⟨_, _, c0', _⟩ := hq 0 (by omega)
  have hspot : spot = none := by simpa [Addr.add] using World.cell?_spot c0'
  subst hspot
  have e : ∀ i, (⟨b, off, none⟩ : Addr).add i = ⟨b, off + i, none⟩ := fun i => by unfold Addr.add; split <;> simp_all
  refine .inr ⟨b, off, rfl, Nat.zero_le _, World.block_lt_of_cell? w ⟨b, off, none⟩ (by simpa [Addr.add] using c0'), fun i hi => ?_⟩
  have hi' : i < len := by simpa using hi
  obtain ⟨a2, c2, d0, d1, d2, hh⟩ := hq i hi'
  rw [e] at d0 d1 d2
  simp only [List.getElem_map, List.getElem_range]
  exact ⟨a2, c2, d0, by rw [Nat.add_assoc]; exact d1, by rw [Nat.add_assoc]; exact d2, hh⟩
def SmallX (x : X) : Prop := Nodw.Small x.f2
def Small (L : List X) : Prop := L.length ≤ 1048576 ∧ ∀ i (h : i < L.length), SmallX L[i]
set_option maxHeartbeats 1000000 in
theorem szX_any (x : X) (a2 : Option Addr) (c2 : Nat) (m : Int) (w : World) (hh : Has 0 w x a2) (h0 : 0 ≤ m) (h1 : m ≤ 1048576) :
    Calls Tryz.prog 143 #[.agg #[.int .i64 x.f0, .int .i64 x.f1, .slice a2 x.f2.length c2], .int .i64 m] w fun e w' => (∃ q : Int, e = .returned (.int .i64 q) ∧ (q = -1 ∨ (0 ≤ q ∧ q ≤ m ∧ SmallX x))) ∧ Below w.heap.size w w' := by
  obtain ⟨h2, z2⟩ := hh
  have HH2 : Hid (Nodw.Row 0 w a2 x.f2) := h2
  have SX : Hid (Nodw.Small x.f2 → SmallX x) := fun s0 => s0
  have cr2 := fun m W h h0 h1 => Nodw.szXS_any a2 c2 x.f2 m W h z2 h0 h1
  obtain ⟨S2, hS2⟩ : ∃ S : Prop, S = Nodw.Small x.f2 := ⟨_, rfl⟩
  rw [← hS2] at SX
  simp only [← hS2] at cr2
  obtain ⟨n2, hn2⟩ : ∃ n, n = x.f2.length := ⟨_, rfl⟩
  rw [← hn2] at z2 ⊢
  simp only [← hn2] at cr2
  clear h2 hS2 hn2
  generalize x.f0 = q0 at *
  generalize x.f1 = q1 at *
  go_enter Tryz.func143, Tryz.ntmps143
  have WB : Hid (∀ o : Obj, Below w.heap.size w (w.alloc o)) := fun o => (Below.refl _ _).alloc (Nat.le_refl _) _
  go_wp2_with fail
  obtain ⟨W0, hW0⟩ : ∃ W0, W0 = w.alloc (.cells #[.int .i64 q0, .int .i64 q1, .slice a2 n2 c2] 187) := ⟨_, rfl⟩
  rw [← hW0]
  have HW : Hid (Below w.heap.size w W0) := by rw [hW0]; exact WB.out _
  have HX : Hid (∀ W', Below W0.heap.size W0 W' → W'.heap[w.heap.size]? = some (.cells #[.int .i64 q0, .int .i64 q1, .slice a2 n2 c2] 187)) := fun W' h => by
    rw [h.block _ (by rw [hW0]; simp), hW0]; exact (MapKept.heap_alloc w _).1
  clear hW0
  refine (cr2 _ _ (HH2.out.below HW.out) (by omega) (by omega)).mono ?_
  rintro e w2 ⟨⟨r2, rfl, hr2⟩, hb2⟩
  have B2 : Hid (Below w.heap.size w w2) := HW.out.trans (hb2.mono HW.out.size)
  have D2 : Hid (Below W0.heap.size W0 w2) := hb2
  clear hb2
  rcases hr2 with rfl | ⟨r2a, r2b, s2⟩
  · go_wp2
    go_ret
    exact ⟨⟨-1, rfl, .inl rfl⟩, B2.out⟩
  go_wp2
  go_ret
  exact ⟨⟨_, rfl, .inr ⟨by omega, by omega, SX.out s2⟩⟩, B2.out⟩
set_option maxHeartbeats 1000000 in
theorem szXS_any (a : Option Addr) (cap : Nat) (L : List X) (m0 : Int) (w : World) (hN : Row 0 w a L) (hlen : L.length ≤ maxLen) (h0 : 0 ≤ m0) (h1 : m0 ≤ 1048576) :
    Calls Tryz.prog 113 #[.slice a L.length cap, .int .i64 m0] w fun e w' => (∃ q : Int, e = .returned (.int .i64 q) ∧ (q = -1 ∨ (0 ≤ q ∧ q ≤ m0 ∧ Small L))) ∧ Below w.heap.size w w' := by
  unfold maxLen at hlen
  obtain ⟨len, hl⟩ : ∃ len, len = L.length := ⟨_, rfl⟩
  have HL : Hid (len = L.length) := hl
  rw [← hl] at hlen ⊢
  clear hl
  by_cases hbig : m0 - (len : Int) < 0
  · clear hN
    go_enter Tryz.func113, Tryz.ntmps113
    go_wp2
    go_ret
    exact ⟨⟨-1, rfl, .inl rfl⟩, Below.refl _ _⟩
  go_enter Tryz.func113, Tryz.ntmps113
  go_wp2
  go_loopw [1, 5] (fun v i wr => ∃ (k : Nat) (m : Int), k ≤ len ∧ 0 ≤ m ∧ m ≤ m0 ∧ i = .int .i64 k ∧ v = .int .i64 m ∧ Hid (∀ i (h : i < L.length), i < k → SmallX L[i]) ∧ Hid (Below w.heap.size w wr)) (fun _ i _ => len - (intOf i).toNat)
  case atStart => exact ⟨0, _, Nat.zero_le _, by omega, by omega, rfl, rfl, (fun i _ h => absurd h (Nat.not_lt_zero _)), Below.refl _ _⟩
  case round =>
    obtain ⟨k, m, hk, hm0, hm1, rfl, rfl, hsm, hbel⟩ := hrel
    by_cases hlt : k < len
    · have hkL : k < L.length := by have := HL.out; omega
      rcases hN with hnil | ⟨b, off, rfl, _, hb, hc⟩
      · exfalso; rw [hnil] at hkL; exact absurd hkL (by simp)
      obtain ⟨a2, c2, d0, d1, d2, hh⟩ := (hc k hkL).kept (hbel.out.block b hb) (fun j _ hj => hbel.out.block j hj) hbel.out.size
      have NX : Hid (SmallX L[k] → ∀ i (h : i < L.length), i < k + 1 → SmallX L[i]) := fun hs i hi hik => by
        rcases Nat.lt_or_ge i k with c | c
        · exact hsm.out i hi c
        · obtain rfl : i = k := by omega
          exact hs
      clear hc hsm
      have cs := fun W (h : Has 0 W L[k] a2) => szX_any L[k] a2 c2 m W h hm0 (by omega)
      have HH : Hid (Has 0 wr L[k] a2) := hh
      obtain ⟨S, hS⟩ : ∃ S : Prop, S = SmallX L[k] := ⟨_, rfl⟩
      rw [← hS] at NX
      simp only [← hS] at cs
      clear hh hS
      have WB : Hid (∀ W, Below wr.heap.size wr W → Has 0 W L[k] a2) := fun W h => HH.out.below h
      clear HH
      generalize L[k] = x at *
      obtain ⟨n2, hn2⟩ : ∃ n, n = x.f2.length := ⟨_, rfl⟩
      rw [← hn2] at d2
      simp only [← hn2] at cs
      clear hn2
      obtain ⟨q0, hq0⟩ : ∃ q, q = x.f0 := ⟨_, rfl⟩
      rw [← hq0] at d0
      simp only [← hq0] at cs
      clear hq0
      obtain ⟨q1, hq1⟩ : ∃ q, q = x.f1 := ⟨_, rfl⟩
      rw [← hq1] at d1
      simp only [← hq1] at cs
      clear hq1
      go_wp2_with fail
      refine (cs _ (WB.out _ (Below.refl _ _))).mono ?_
      rintro e w1 ⟨⟨q, rfl, hq⟩, hb1⟩
      have bel1 : Hid (Below w.heap.size w w1) := hbel.out.trans (hb1.mono hbel.out.size)
      clear hb1 hbel WB
      rcases hq with rfl | ⟨q0', q1', hs⟩
      · go_wp2
        go_ret
        exact ⟨⟨-1, rfl, .inl rfl⟩, bel1.out⟩
      · have NY := NX.out hs
        have NY : Hid (∀ i (h : i < L.length), i < k + 1 → SmallX L[i]) := NY
        go_wp2
        go_roundw
        case rel => exact ⟨k + 1, q, by omega, q0', by omega, by go_num, rfl, NY.out, bel1.out⟩
        case measure => simp [intOf]; omega
    · have SM : Hid (Small L) := ⟨by have := HL.out; omega, fun i hi => hsm.out i hi (by have := HL.out; omega)⟩
      clear hN hsm
      go_wp2
      go_ret
      exact ⟨⟨m, rfl, .inr ⟨hm0, hm1, SM.out⟩⟩, hbel.out⟩
set_option maxHeartbeats 2000000 in
theorem toX_any (x : X) (a2 : Option Addr) (c2 : Nat) (w : World) (hh : Has 0 w x a2) (hsm : SmallX x) :
    Calls Tryz.prog 144 #[.agg #[.int .i64 x.f0, .int .i64 x.f1, .slice a2 x.f2.length c2]] w fun e w' => (∃ a2' c2', e = .returned (.agg #[.int .i64 x.f0, .int .i64 x.f1, .slice a2' x.f2.length c2']) ∧ Has w.heap.size w' x a2') ∧ Below w.heap.size w w' := by
  obtain ⟨h2, z2⟩ := hh
  have HH2 : Hid (Nodw.Row 0 w a2 x.f2) := h2
  have s2 : Nodw.Small x.f2 := hsm
  have HS : Hid (∀ (N : Nat) (W : World) (a2' : Option Addr), Nodw.Row N W a2' x.f2 → Has N W x a2') := fun N W a2' k2 => ⟨k2, z2⟩
  have cr2 := fun W h => Nodw.toXS_any a2 c2 x.f2 W h s2
  obtain ⟨n2, hn2⟩ : ∃ n, n = x.f2.length := ⟨_, rfl⟩
  rw [← hn2]
  simp only [← hn2] at cr2
  obtain ⟨q0, hq0⟩ : ∃ q, q = x.f0 := ⟨_, rfl⟩
  rw [← hq0]
  obtain ⟨q1, hq1⟩ : ∃ q, q = x.f1 := ⟨_, rfl⟩
  rw [← hq1]
  clear hn2 hq0 hq1 h2 z2 s2
  have hiX : Hid ((Tryz.prog.info? 94).map (·.size) = some 3) := (by kernel_rfl : (Tryz.prog.info? 94).map (·.size) = some 3)
  go_enter Tryz.func144, Tryz.ntmps144
  go_wp2_with fail
  obtain ⟨W0, hW0⟩ : ∃ W0, W0 = ((w.alloc (.cells #[.int .i64 q0, .int .i64 q1, .slice a2 n2 c2] 187)).alloc (.cells #[.int .i64 0, .int .i64 0, .slice none 0 0] 94)).alloc (.cells #[.int .i64 q0, .int .i64 q1, .slice none 0 0] 94) := ⟨_, rfl⟩
  rw [← hW0]
  have Z0 : W0.heap.size = w.heap.size + 1 + 1 + 1 := by rw [hW0]; simp
  have B0 : Hid (Below w.heap.size w W0) := by rw [hW0]; exact (((Below.refl _ _).alloc (Nat.le_refl _) _).alloc (by simp) _).alloc (by simp; omega) _
  have G0 : Hid (W0.heap[w.heap.size]? = some (.cells #[.int .i64 q0, .int .i64 q1, .slice a2 n2 c2] 187)) := by
    show W0.heap[w.heap.size]? = _
    rw [hW0, Below.heap_alloc _ _ _ (by simp; omega), Below.heap_alloc _ _ _ (by simp)]; exact (MapKept.heap_alloc w _).1
  have R0 : Hid (W0.heap[w.heap.size + 1]? = some (.cells #[.int .i64 0, .int .i64 0, .slice none 0 0] 94 (0, 0))) := by
    show W0.heap[w.heap.size + 1]? = _
    have := (MapKept.heap_alloc (w.alloc (.cells #[.int .i64 q0, .int .i64 q1, .slice a2 n2 c2] 187)) (.cells #[.int .i64 0, .int .i64 0, .slice none 0 0] 94)).1
    rw [hW0, Below.heap_alloc _ _ _ (by simp)]
    simpa using this
  have O0 : Hid (W0.heap[w.heap.size + 1 + 1]? = some (.cells #[.int .i64 q0, .int .i64 q1, .slice none 0 0] 94 (0, 0))) := by
    show W0.heap[w.heap.size + 1 + 1]? = _
    have := (MapKept.heap_alloc ((w.alloc (.cells #[.int .i64 q0, .int .i64 q1, .slice a2 n2 c2] 187)).alloc (.cells #[.int .i64 0, .int .i64 0, .slice none 0 0] 94)) (.cells #[.int .i64 q0, .int .i64 q1, .slice none 0 0] 94)).1
    rw [hW0]
    simpa using this
  clear hW0
  refine (cr2 _ (HH2.out.below B0.out)).mono ?_
  rintro e w2 ⟨⟨a2', c2', rfl, hrow2⟩, hb2⟩
  have V2 : w.heap.size + 1 + 1 < w2.heap.size := by have := hb2.size; rw [Z0] at this; omega
  have Bn2 : Hid (Below w.heap.size w w2) := B0.out.trans (hb2.mono B0.out.size)
  have Gn2 : Hid (w2.heap[w.heap.size]? = some (.cells #[.int .i64 q0, .int .i64 q1, .slice a2 n2 c2] 187)) := (hb2.block _ (by rw [Z0]; omega)).trans G0.out
  have Rn2 : Hid (w2.heap[w.heap.size + 1]? = some (.cells #[.int .i64 0, .int .i64 0, .slice none 0 0] 94 (0, 0))) := (hb2.block _ (by rw [Z0]; omega)).trans R0.out
  have On2 : Hid (w2.heap[w.heap.size + 1 + 1]? = some (.cells #[.int .i64 q0, .int .i64 q1, .slice none 0 0] 94 (0, 0))) := (hb2.block _ (by rw [Z0]; omega)).trans O0.out
  have T2 : Hid (Nodw.Row (w.heap.size + 1 + 1 + 1) w2 a2' x.f2) := hrow2.mono (by rw [Z0]; omega)
  have xo2 : w2.cell? ⟨w.heap.size + 1 + 1, 2, none⟩ = some (.slice none 0 0) := by rw [cell_of_row _ _ _ _ _ _ On2.out]; rfl
  have xf2 : w2.frozen? ⟨w.heap.size + 1 + 1, 2, none⟩ = false := frozen_of_row _ _ _ _ _ On2.out
  have Bs2 : Hid (Below w.heap.size w (w2.setCell ⟨w.heap.size + 1 + 1, 2, none⟩ (.slice a2' n2 c2'))) := Bn2.out.setCell (p := ⟨w.heap.size + 1 + 1, 2, none⟩) (show w.heap.size ≤ w.heap.size + 1 + 1 by omega) _
  have Gs2 : Hid ((w2.setCell ⟨w.heap.size + 1 + 1, 2, none⟩ (.slice a2' n2 c2')).heap[w.heap.size]? = some (.cells #[.int .i64 q0, .int .i64 q1, .slice a2 n2 c2] 187)) := (Below.heap_setCell _ _ _ _ (by simp; omega)).trans Gn2.out
  have Rs2 : Hid ((w2.setCell ⟨w.heap.size + 1 + 1, 2, none⟩ (.slice a2' n2 c2')).heap[w.heap.size + 1]? = some (.cells #[.int .i64 0, .int .i64 0, .slice none 0 0] 94 (0, 0))) := (Below.heap_setCell _ _ _ _ (by simp)).trans Rn2.out
  have Os2 : Hid ((w2.setCell ⟨w.heap.size + 1 + 1, 2, none⟩ (.slice a2' n2 c2')).heap[w.heap.size + 1 + 1]? = some (.cells #[.int .i64 q0, .int .i64 q1, .slice a2' n2 c2'] 94 (0, 0))) := (heap_setCell_same _ _ _ _ _ _ On2.out).trans rfl
  have U2 : w.heap.size + 1 + 1 < (w2.setCell ⟨w.heap.size + 1 + 1, 2, none⟩ (.slice a2' n2 c2')).heap.size := by rw [World.size_setCell]; exact V2
  have T2s : Hid (Nodw.Row (w.heap.size + 1 + 1 + 1) (w2.setCell ⟨w.heap.size + 1 + 1, 2, none⟩ (.slice a2' n2 c2')) a2' x.f2) := T2.out.kept (fun k hk _ => Below.heap_setCell _ _ _ _ (by simp; omega)) (by rw [World.size_setCell]; exact Nat.le_refl _)
  clear hb2 hrow2
  go_upto_region 5 with fail
  refine wp_region_list ?_
  refine wpList_load_row rfl 94 _ rfl (w.heap.size + 1 + 1) rfl _ _ (0, 0) _ Os2.out Tryz.underlying94 rfl hiX.out ?_
  refine wpList_store_row rfl 94 _ _ rfl (w.heap.size + 1) #[.int .i64 q0, .int .i64 q1, .slice a2' n2 c2'] rfl rfl _ _ Rs2.out hiX.out rfl (by simp [Value.oneCell']) ?_
  refine wpList_nil ?_
  go_wp2
  refine bodyPost_ret (v := .agg #[.int .i64 q0, .int .i64 q1, .slice a2' n2 c2']) (results_cell_row Tryz.results144 _ _ (w.heap.size + 1) _ _ (0, 0) _ rfl (setRow_heap _ _ _ _ _ _ Rs2.out) Tryz.underlying94 rfl hiX.out) rfl ⟨⟨a2', c2', rfl, HS.out _ _ _ ((T2s.out.kept (fun k hk _ => setRow_other _ _ _ _ (by omega)) (by rw [setRow_size]; exact Nat.le_refl _)).mono (by omega))⟩, ?_⟩
  exact below_setRow Bs2.out (by omega) _
/-- The first k lie in the new block; the rest of it can be written. -/
def Part (W : World) (B len : Nat) (L : List X) (k : Nat) : Prop :=
  (∀ i (h : i < L.length), i < k → At (B + 1) W B (i * 3) L[i]) ∧ (∀ j, j < len * 3 → ∃ u, W.cell? ⟨B, j, none⟩ = some u) ∧ (∀ j, W.frozen? ⟨B, j, none⟩ = false) ∧ B < W.heap.size
theorem Part.kept {W W' : World} {B len k : Nat} {L : List X} (h : Part W B len L k) (hb : Below W.heap.size W W') : Part W' B len L k := by
  have hB := hb.block B h.2.2.2
  refine ⟨fun i hi hk => (h.1 i hi hk).kept hB (fun j _ hj => hb.block j hj) hb.size, fun j hj => ?_, fun j => ?_, Nat.lt_of_lt_of_le h.2.2.2 hb.size⟩
  · rw [World.cell?_of_block (a := ⟨B, j, none⟩) hB]; exact h.2.1 j hj
  · rw [World.frozen?_of_block (a := ⟨B, j, none⟩) hB]; exact h.2.2.1 j
theorem Part.set {W : World} {B len k o : Nat} {L : List X} (h : Part W B len L k) (ho : k * 3 ≤ o) (v : Value) : Part (W.setCell ⟨B, o, none⟩ v) B len L k := by
  have ne : ∀ i, i ≠ o → (W.setCell ⟨B, o, none⟩ v).cell? ⟨B, i, none⟩ = W.cell? ⟨B, i, none⟩ := fun i hi => World.cell?_setCell_other W _ _ _ (fun e => hi (by have := congrArg Addr.off e; exact this.symm))
  have hko : ∀ j, B + 1 ≤ j → j < W.heap.size → (W.setCell ⟨B, o, none⟩ v).heap[j]? = W.heap[j]? := fun j hj _ => Below.heap_setCell _ _ _ _ (by simp; omega)
  refine ⟨fun i hi hk => ?_, fun j hj => ?_, fun j => ?_, ?_⟩
  · obtain ⟨a2, c2, d0, d1, d2, hh⟩ := h.1 i hi hk
    have hlt : i * 3 + 2 < o := by have : (i + 1) * 3 ≤ k * 3 := Nat.mul_le_mul_right _ hk; omega
    exact ⟨a2, c2, (ne _ (by omega)).trans d0, (ne _ (by omega)).trans d1, (ne _ (by omega)).trans d2, hh.kept hko (by rw [World.size_setCell]; exact Nat.le_refl _)⟩
  · by_cases e : j = o
    · subst e
      obtain ⟨u, hu⟩ := h.2.1 j hj
      exact ⟨v, World.cell?_setCell_same W _ _ hu⟩
    · rw [ne j e]; exact h.2.1 j hj
  · rw [World.frozen?_setCell]; exact h.2.2.1 j
  · rw [World.size_setCell]; exact h.2.2.2
theorem Part.store {W : World} {B len k : Nat} {L : List X} (h : Part W B len L k) (hk : k < len) (hkL : k < L.length) (a2 : Option Addr) (c2 : Nat) (hh : Has (B + 1) W L[k] a2) : Part (((W.setCell ⟨B, k * 3, none⟩ (.int .i64 L[k].f0)).setCell ⟨B, k * 3 + 1, none⟩ (.int .i64 L[k].f1)).setCell ⟨B, k * 3 + 2, none⟩ (.slice a2 L[k].f2.length c2)) B len L (k + 1) := by
  have h1 := h.set (o := k * 3) (by omega) (.int .i64 L[k].f0)
  have h2 := h1.set (o := k * 3 + 1) (by omega) (.int .i64 L[k].f1)
  have h3 := h2.set (o := k * 3 + 2) (by omega) (.slice a2 L[k].f2.length c2)
  refine ⟨fun i hi hik => ?_, h3.2.1, h3.2.2.1, h3.2.2.2⟩
  by_cases e : i = k
  · subst e
    obtain ⟨u0, hu0⟩ := h.2.1 (i * 3) (by omega)
    obtain ⟨u1, hu1⟩ := h1.2.1 (i * 3 + 1) (by omega)
    obtain ⟨u2, hu2⟩ := h2.2.1 (i * 3 + 2) (by omega)
    refine ⟨a2, c2, ?_, ?_, ?_, ?_⟩
    · rw [World.cell?_setCell_other _ _ _ _ (by simp), World.cell?_setCell_other _ _ _ _ (by simp)]; exact World.cell?_setCell_same _ _ _ hu0
    · rw [World.cell?_setCell_other _ _ _ _ (by simp)]; exact World.cell?_setCell_same _ _ _ hu1
    · exact World.cell?_setCell_same _ _ _ hu2
    · refine hh.kept (fun j hj _ => ?_) (by simp only [World.size_setCell]; exact Nat.le_refl _)
      rw [Below.heap_setCell _ _ _ _ (by simp; omega), Below.heap_setCell _ _ _ _ (by simp; omega), Below.heap_setCell _ _ _ _ (by simp; omega)]
  · exact h3.1 i hi (by omega)
theorem infoX : (Tryz.prog.info? 94).map (fun i => (i.zero, i.size, i.bytes)) = some (some (.agg #[.int .i64 0, .int .i64 0, .slice none 0 0]), 3, 40) := by kernel_rfl
theorem Part.made (w : World) (len : Nat) (L : List X) (z : Array Value) (t : TypeId) : Part (w.alloc (.cells (madeCells z (len * 3)) t)) w.heap.size len L 0 := by
  refine ⟨fun i _ h => absurd h (Nat.not_lt_zero _), fun j hj => ?_, fun j => ?_, by simp⟩
  · rw [World.cell?_alloc_new]
    exact ⟨_, Array.getElem?_eq_getElem (by rw [size_madeCells]; exact hj)⟩
  · exact World.frozen?_alloc_at _ _ _ _ rfl
theorem info_parts {P : Program} {t : TypeId} {z : Value} {s b : Nat} (h : (P.info? t).map (fun i => (i.zero, i.size, i.bytes)) = some (some z, s, b)) : ∃ i, P.info? t = some i ∧ i.zero = some z ∧ i.size = s ∧ i.bytes = b := by
  cases e : P.info? t with
  | none => rw [e] at h; cases h
  | some i =>
    rw [e] at h
    simp only [Option.map_some, Option.some.injEq, Prod.mk.injEq] at h
    exact ⟨i, rfl, h.1, h.2.1, h.2.2⟩
set_option maxHeartbeats 1000000 in
theorem toXS_any (a : Option Addr) (cap : Nat) (L : List X) (w : World) (hN : Row 0 w a L) (hsm : Small L) :
    Calls Tryz.prog 117 #[.slice a L.length cap] w fun e w' => (∃ (a' : Option Addr) (c' : Nat), e = .returned (.slice a' L.length c') ∧ Row w.heap.size w' a' L) ∧ Below w.heap.size w w' := by
  obtain ⟨i0, hi, hz0, hz1, hz2⟩ := info_parts infoX
  obtain ⟨len, hl⟩ : ∃ len, len = L.length := ⟨_, rfl⟩
  have HL : Hid (len = L.length) := hl
  have hlen := hsm.1
  have HSM : Hid (Small L) := hsm
  rw [← hl] at hlen ⊢
  clear hl hsm
  have hmk : ∀ u : World, (Instr.makeSlice 44 (.int .i64 (len : Int)) (.int .i64 (len : Int))).run Tryz.prog u =
      .ok (.slice (some ⟨u.heap.size, 0, none⟩) len len) (u.alloc (.cells (madeCells #[.int .i64 0, .int .i64 0, .slice none 0 0] (len * 3)) 94)) := fun u => by
    have h := run_make (P := Tryz.prog) u 44 94 i0 (.agg #[.int .i64 0, .int .i64 0, .slice none 0 0]) Tryz.underlying44 hi hz0 .i64 .i64 (len : Int) (len : Int) (by omega) (Int.le_refl _) (by rw [hz2]; omega) (by omega)
    simpa [hz1, Value.cells] using h
  clear hz0 hz1 hz2 hi
  have P0 : Hid (∀ o, Part (w.alloc (.cells (madeCells #[.int .i64 0, .int .i64 0, .slice none 0 0] (len * 3)) o)) w.heap.size len L 0) := fun o => Part.made w len L _ o
  go_enter Tryz.func117, Tryz.ntmps117
  go_wp2
  go_loopw [4] (fun i wr => ∃ k : Nat, k ≤ len ∧ i = .int .i64 k ∧ Hid (Part wr w.heap.size len L k) ∧ Hid (Below w.heap.size w wr)) (fun i _ => len - (intOf i).toNat)
  case atStart => exact ⟨0, Nat.zero_le _, rfl, P0.out _, (Below.refl _ _).alloc (Nat.le_refl _) _⟩
  case round =>
    obtain ⟨k, hk, rfl, hpart, hbel⟩ := hrel
    by_cases hlt : k < len
    · have hkL : k < L.length := by have := HL.out; omega
      rcases hN with hnil | ⟨b, off, rfl, _, hb, hc⟩
      · exfalso; rw [hnil] at hkL; exact absurd hkL (by simp)
      obtain ⟨a2, c2, d0, d1, d2, hh⟩ := (hc k hkL).kept (hbel.out.block b hb) (fun j _ hj => hbel.out.block j hj) hbel.out.size
      clear hc
      have S : Hid (∀ W (a2' : Option Addr) (c2' : Nat), Part W w.heap.size len L k → Has (w.heap.size + 1) W L[k] a2' → Part (((W.setCell ⟨w.heap.size, k * 3, none⟩ (.int .i64 L[k].f0)).setCell ⟨w.heap.size, k * 3 + 1, none⟩ (.int .i64 L[k].f1)).setCell ⟨w.heap.size, k * 3 + 2, none⟩ (.slice a2' L[k].f2.length c2')) w.heap.size len L (k + 1)) := fun W a2' c2' h h2 => h.store hlt hkL a2' c2' h2
      have ct := fun W (h : Has 0 W L[k] a2) => toX_any L[k] a2 c2 W h (HSM.out.2 k hkL)
      have HH : Hid (Has 0 wr L[k] a2) := hh
      clear hh
      generalize L[k] = x at *
      have HI : Hid (∀ N W (a2' : Option Addr), Has N W x a2' → Has N W x a2') := fun N W a2' h => h
      obtain ⟨HX, hHX⟩ : ∃ HX : Nat → World → Option Addr → Prop, HX = fun N W a2' => Has N W x a2' := ⟨_, rfl⟩
      have e1 : ∀ N W (a2' : Option Addr), (Has N W x a2') = HX N W a2' := fun N W a2' => by rw [hHX]
      have HM : Hid (∀ N N' W (a2' : Option Addr), HX N W a2' → N' ≤ N → HX N' W a2') := fun N N' W a2' h hN => by rw [← e1] at h ⊢; exact h.mono hN
      simp only [e1] at S ct HH
      clear HI e1 hHX
      obtain ⟨n2, hn2⟩ : ∃ n, n = x.f2.length := ⟨_, rfl⟩
      rw [← hn2] at d2
      simp only [← hn2] at S ct
      clear hn2
      obtain ⟨q0, hq0⟩ : ∃ q, q = x.f0 := ⟨_, rfl⟩
      rw [← hq0] at d0
      simp only [← hq0] at S ct
      clear hq0
      obtain ⟨q1, hq1⟩ : ∃ q, q = x.f1 := ⟨_, rfl⟩
      rw [← hq1] at d1
      simp only [← hq1] at S ct
      clear hq1
      go_wp2_with fail
      refine (ct _ HH.out).mono ?_
      rintro e w1 ⟨⟨a2', c2', rfl, hn⟩, hb1⟩
      have hp1 : Hid (Part w1 w.heap.size len L k) := hpart.out.kept hb1
      have hN1 : Hid (HX (w.heap.size + 1) w1 a2') := HM.out _ _ _ _ hn hpart.out.2.2.2
      have bel1 : Hid (Below w.heap.size w w1) := hbel.out.trans (hb1.mono hbel.out.size)
      obtain ⟨u0, x0⟩ := hp1.out.2.1 (k * 3) (by omega)
      have g0 := hp1.out.2.2.1 (k * 3)
      obtain ⟨u1, x1⟩ := hp1.out.2.1 (k * 3 + 1) (by omega)
      have g1 := hp1.out.2.2.1 (k * 3 + 1)
      obtain ⟨u2, x2⟩ := hp1.out.2.1 (k * 3 + 2) (by omega)
      have g2 := hp1.out.2.2.1 (k * 3 + 2)
      clear hb1 hbel hpart hn d0 d1 d2
      go_wp2
      go_roundw
      case rel => exact ⟨k + 1, by omega, by go_num, S.out _ _ _ hp1.out hN1.out, (((bel1.out.setCell (Nat.le_refl _) _).setCell (Nat.le_refl _) _).setCell (Nat.le_refl _) _)⟩
      case measure => simp [intOf]; omega
    · have HE : Hid (Row w.heap.size wr (some ⟨w.heap.size, 0, none⟩) L) := .inr ⟨w.heap.size, 0, rfl, Nat.le_refl _, hpart.out.2.2.2, fun i hi => by
        obtain ⟨a2, c2, d0, d1, d2, hh⟩ := hpart.out.1 i hi (by have := HL.out; omega)
        rw [Nat.zero_add]
        exact ⟨a2, c2, d0, d1, d2, hh.mono (by omega)⟩⟩
      clear hN
      go_wp2
      go_ret
      exact ⟨⟨_, _, rfl, HE.out⟩, hbel.out⟩
set_option maxHeartbeats 1000000 in
theorem eqX_any (x : X) (a2 : Option Addr) (c2 : Nat) (a2' : Option Addr) (c2' : Nat) (w : World) (hh : Has 0 w x a2) (hh' : Has 0 w x a2') (hsm : SmallX x) :
    Calls Tryz.prog 152 #[.agg #[.int .i64 x.f0, .int .i64 x.f1, .slice a2 x.f2.length c2], .agg #[.int .i64 x.f0, .int .i64 x.f1, .slice a2' x.f2.length c2']] w fun e w' => e = .returned (.bool true) ∧ Below w.heap.size w w' := by
  obtain ⟨h2, z2⟩ := hh
  obtain ⟨h2', z2'⟩ := hh'
  have s2 : Nodw.Small x.f2 := hsm
  have cr2 := fun W h h' => Nodw.eqXS_any a2 a2' c2 c2' x.f2 W h h' s2
  have HH2 : Hid (Nodw.Row 0 w a2 x.f2) := h2
  have HH2' : Hid (Nodw.Row 0 w a2' x.f2) := h2'
  obtain ⟨n2, hn2⟩ : ∃ n, n = x.f2.length := ⟨_, rfl⟩
  rw [← hn2]
  simp only [← hn2] at cr2
  obtain ⟨q0, hq0⟩ : ∃ q, q = x.f0 := ⟨_, rfl⟩
  rw [← hq0]
  obtain ⟨q1, hq1⟩ : ∃ q, q = x.f1 := ⟨_, rfl⟩
  rw [← hq1]
  clear hn2 h2 z2 h2' z2' s2
  clear hq0 hq1
  have WB : Hid (∀ o o' : Obj, Below w.heap.size w ((w.alloc o).alloc o')) := fun o o' => ((Below.refl _ _).alloc (Nat.le_refl _) _).alloc (by simp) _
  go_enter Tryz.func152, Tryz.ntmps152
  go_wp2_with fail
  obtain ⟨W0, hW0⟩ : ∃ W0, W0 = (w.alloc (.cells #[.int .i64 q0, .int .i64 q1, .slice a2 n2 c2] 94)).alloc (.cells #[.int .i64 q0, .int .i64 q1, .slice a2' n2 c2'] 94) := ⟨_, rfl⟩
  rw [← hW0]
  have B0 : Hid (Below w.heap.size w W0) := by rw [hW0]; exact WB.out _ _
  have Z0 : W0.heap.size = w.heap.size + 1 + 1 := by rw [hW0]; simp
  have G0 : Hid (W0.heap[w.heap.size]? = some (.cells #[.int .i64 q0, .int .i64 q1, .slice a2 n2 c2] 94)) := by
    show W0.heap[w.heap.size]? = _
    rw [hW0, Below.heap_alloc _ _ _ (by simp)]; exact (MapKept.heap_alloc w _).1
  have R0 : Hid (W0.heap[w.heap.size + 1]? = some (.cells #[.int .i64 q0, .int .i64 q1, .slice a2' n2 c2'] 94)) := by
    show W0.heap[w.heap.size + 1]? = _
    have := (MapKept.heap_alloc (w.alloc (.cells #[.int .i64 q0, .int .i64 q1, .slice a2 n2 c2] 94)) (.cells #[.int .i64 q0, .int .i64 q1, .slice a2' n2 c2'] 94)).1
    rw [hW0]
    simpa using this
  clear hW0
  refine (cr2 _ (HH2.out.below B0.out) (HH2'.out.below B0.out)).mono ?_
  rintro e w2 ⟨rfl, hb2⟩
  have B2n : Hid (Below w.heap.size w w2) := B0.out.trans (hb2.mono B0.out.size)
  have V2 : w.heap.size + 1 < w2.heap.size := by have := hb2.size; rw [Z0] at this; omega
  have G2n : Hid (w2.heap[w.heap.size]? = some (.cells #[.int .i64 q0, .int .i64 q1, .slice a2 n2 c2] 94)) := (hb2.block _ (by rw [Z0]; omega)).trans G0.out
  have R2n : Hid (w2.heap[w.heap.size + 1]? = some (.cells #[.int .i64 q0, .int .i64 q1, .slice a2' n2 c2'] 94)) := (hb2.block _ (by rw [Z0]; omega)).trans R0.out
  clear hb2
  go_wp2
  go_ret
  exact ⟨rfl, B2n.out⟩
set_option maxHeartbeats 1000000 in
theorem eqXS_any (a a' : Option Addr) (cap cap' : Nat) (L : List X) (w : World) (hN : Row 0 w a L) (hN' : Row 0 w a' L) (hsm : Small L) :
    Calls Tryz.prog 123 #[.slice a L.length cap, .slice a' L.length cap'] w fun e w' => e = .returned (.bool true) ∧ Below w.heap.size w w' := by
  obtain ⟨len, hl⟩ : ∃ len, len = L.length := ⟨_, rfl⟩
  have HL : Hid (len = L.length) := hl
  have hlen := hsm.1
  have HSM : Hid (Small L) := hsm
  rw [← hl] at hlen ⊢
  clear hl hsm
  go_enter Tryz.func123, Tryz.ntmps123
  go_wp2
  go_loopw [5] (fun i wr => ∃ k : Nat, k ≤ len ∧ i = .int .i64 k ∧ Hid (Below w.heap.size w wr)) (fun i _ => len - (intOf i).toNat)
  case atStart => exact ⟨0, Nat.zero_le _, rfl, Below.refl _ _⟩
  case round =>
    obtain ⟨k, hk, rfl, hbel⟩ := hrel
    by_cases hlt : k < len
    · have hkL : k < L.length := by have := HL.out; omega
      rcases hN with hnil | ⟨b, off, rfl, _, hb, hc⟩
      · exfalso; rw [hnil] at hkL; exact absurd hkL (by simp)
      rcases hN' with hnil | ⟨b', off', rfl, _, hb', hc'⟩
      · exfalso; rw [hnil] at hkL; exact absurd hkL (by simp)
      obtain ⟨a2, c2, d0, d1, d2, hh⟩ := (hc k hkL).kept (hbel.out.block b hb) (fun j _ hj => hbel.out.block j hj) hbel.out.size
      obtain ⟨a2', c2', e0, e1, e2, hh'⟩ := (hc' k hkL).kept (hbel.out.block b' hb') (fun j _ hj => hbel.out.block j hj) hbel.out.size
      clear hc hc'
      have ce := fun W (h : Has 0 W L[k] a2) (h' : Has 0 W L[k] a2') => eqX_any L[k] a2 c2 a2' c2' W h h' (HSM.out.2 k hkL)
      have HH : Hid (∀ W, Below wr.heap.size wr W → Has 0 W L[k] a2 ∧ Has 0 W L[k] a2') := fun W h => ⟨hh.below h, hh'.below h⟩
      clear hh hh'
      generalize L[k] = x at *
      have HC : Hid (∀ W, Below wr.heap.size wr W → Calls Tryz.prog 152 #[.agg #[.int .i64 x.f0, .int .i64 x.f1, .slice a2 x.f2.length c2], .agg #[.int .i64 x.f0, .int .i64 x.f1, .slice a2' x.f2.length c2']] W fun e w' => e = .returned (.bool true) ∧ Below W.heap.size W w') := fun W h => ce W (HH.out W h).1 (HH.out W h).2
      clear ce HH
      obtain ⟨n2, hn2⟩ : ∃ n, n = x.f2.length := ⟨_, rfl⟩
      rw [← hn2] at d2 e2
      simp only [← hn2] at HC
      clear hn2
      obtain ⟨q0, hq0⟩ : ∃ q, q = x.f0 := ⟨_, rfl⟩
      rw [← hq0] at d0 e0
      simp only [← hq0] at HC
      clear hq0
      obtain ⟨q1, hq1⟩ : ∃ q, q = x.f1 := ⟨_, rfl⟩
      rw [← hq1] at d1 e1
      simp only [← hq1] at HC
      clear hq1
      have k0 : (0 : Int) ≤ (k : Int) := by omega
      have k1 : (k : Int) < (len : Int) := by omega
      go_wp2_with fail
      go_region_with (go_at_call 152; refine (HC.out _ ((Below.refl _ _).drew)).mono ?_; rintro e w1 ⟨rfl, hb1⟩)
      all_goals go_wp2
      all_goals
        go_roundw
        case rel => exact ⟨k + 1, by omega, by go_num, hbel.out.trans ((Mirror.below_of_drew hb1).mono hbel.out.size)⟩
        case measure => simp [intOf]; omega
    · clear hN hN'
      go_wp2
      go_ret
      exact ⟨rfl, hbel.out⟩
end Go.Proofs.YtplkglgaobdpiaaGreatDoor.Patr
