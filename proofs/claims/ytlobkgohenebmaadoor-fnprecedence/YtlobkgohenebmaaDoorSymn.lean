/-
  Contracts of ours for how a name is looked up among symbols: impl.symNamed, spec.l2Sym.
-/
import Derived.Test.YtlobkgohenebmaaDoorSymr
import Derived.Deep.QuietTactic
import Derived.BigQuiet
namespace Go.Proofs.YtlobkgohenebmaaDoor.Symn
open Go.ChangeShapes Go.WideShapes Go.ChangeAt Go.RowKit Go.Deep
open Symr (Sym Syms)
set_option linter.unusedVariables false
set_option maxRecDepth 20000

def same (a b : ByteArray) : Bool := a.toList == b.toList
/-- The first symbol with a name. -/
def find : List Sym → ByteArray → Option Sym
  | [], _ => none
  | y :: r, s => if same y.1 s = true then some y else find r s
theorem find_at {Y : List Sym} {k : Nat} {s : ByteArray} (h : k < Y.length) : find (Y.drop k) s = if same Y[k].1 s = true then some Y[k] else find (Y.drop (k + 1)) s := by
  rw [List.drop_eq_getElem_cons h]; rfl
def symV (o : Option Sym) : Value := match o with
  | none => .tuple #[.agg #[.string ⟨#[]⟩, .int .i64 0, .int .i64 0], .int .i64 2]
  | some y => .tuple #[.agg #[.string y.1, .int .i64 y.2.1, .int .i64 y.2.2], .int .i64 0]

/-- A symbol of noughts lies in a block of the call's own. -/
def Zero (w : World) (b : Nat) : Prop := w.cell? ⟨b, 0, none⟩ = some (.string ⟨#[]⟩) ∧ w.cell? ⟨b, 1, none⟩ = some (.int .i64 0) ∧ w.cell? ⟨b, 2, none⟩ = some (.int .i64 0) ∧ (∀ i, w.frozen? ⟨b, i, none⟩ = false) ∧ b < w.heap.size
theorem Zero.new (w : World) : Zero (w.alloc (.cells #[.string ⟨#[]⟩, .int .i64 0, .int .i64 0] 68)) w.heap.size := by
  refine ⟨?_, ?_, ?_, fun i => World.frozen?_alloc_at _ _ _ _ rfl, by simp⟩
  · rw [World.cell?_alloc_new]; rfl
  · rw [World.cell?_alloc_new]; rfl
  · rw [World.cell?_alloc_new]; rfl
theorem Zero.below {w w' : World} {b : Nat} (h : Zero w b) (hb : Below w.heap.size w w') : Zero w' b := by
  obtain ⟨h0, h1, h2, h3, h4⟩ := h
  exact ⟨(hb.cell (p := ⟨b, _, none⟩) h4).trans h0, (hb.cell (p := ⟨b, _, none⟩) h4).trans h1, (hb.cell (p := ⟨b, _, none⟩) h4).trans h2, fun i => (World.frozen?_of_block (a := ⟨b, i, none⟩) (hb.block b h4)).trans (h3 i), Nat.lt_of_lt_of_le h4 hb.size⟩
theorem Zero.put {w : World} {B : Nat} (h : Zero w B) (x y z : Value) : (((w.setCell ⟨B, 0, none⟩ x).setCell ⟨B, 1, none⟩ y).setCell ⟨B, 2, none⟩ z).cell? ⟨B, 0, none⟩ = some x ∧ (((w.setCell ⟨B, 0, none⟩ x).setCell ⟨B, 1, none⟩ y).setCell ⟨B, 2, none⟩ z).cell? ⟨B, 1, none⟩ = some y ∧ (((w.setCell ⟨B, 0, none⟩ x).setCell ⟨B, 1, none⟩ y).setCell ⟨B, 2, none⟩ z).cell? ⟨B, 2, none⟩ = some z := by
  obtain ⟨h0, h1, h2, h3, h4⟩ := h
  refine ⟨?_, ?_, ?_⟩
  · rw [World.cell?_setCell_other _ _ _ _ (by simp), World.cell?_setCell_other _ _ _ _ (by simp)]
    exact World.cell?_setCell_same _ _ _ h0
  · rw [World.cell?_setCell_other _ _ _ _ (by simp)]
    exact World.cell?_setCell_same _ _ _ ((World.cell?_setCell_other _ _ _ _ (by simp)).trans h1)
  · exact World.cell?_setCell_same _ _ _ ((World.cell?_setCell_other _ _ _ _ (by simp)).trans ((World.cell?_setCell_other _ _ _ _ (by simp)).trans h2))
set_option maxHeartbeats 1000000 in
theorem symNamed_any (s : ByteArray) (a : Option Addr) (cap : Nat) (L : List Sym) (w : World) (hN : Syms w a L) (hlen : L.length ≤ 1048576) :
    Calls Tryd.prog 42 #[.string s, .slice a L.length cap] w fun e w' => e = .returned (symV (find L s)) ∧ Below w.heap.size w w' := by
  obtain ⟨len, hl⟩ : ∃ len, len = L.length := ⟨_, rfl⟩
  have HL : Hid (len = L.length) := hl
  rw [← hl] at hlen ⊢
  clear hl
  obtain ⟨R, hR⟩ : ∃ R, R = find L s := ⟨_, rfl⟩
  have HR : Hid (R = find (L.drop 0) s) := hR
  rw [← hR]
  clear hR
  go_enter Tryd.func42, Tryd.ntmps42
  go_wp2_with fail
  have B0 : Hid (Below w.heap.size w (w.alloc (.cells #[.string ⟨#[]⟩, .int .i64 0, .int .i64 0] 68))) := (Below.refl _ _).alloc (Nat.le_refl _) _
  have Z0 : Hid (Zero (w.alloc (.cells #[.string ⟨#[]⟩, .int .i64 0, .int .i64 0] 68)) w.heap.size) := Zero.new w
  generalize w.alloc (.cells #[.string ⟨#[]⟩, .int .i64 0, .int .i64 0] 68) = W0 at B0 Z0 ⊢
  go_loopw [10] (fun i wr => ∃ k : Nat, k ≤ len ∧ i = .int .i64 k ∧ Hid (R = find (L.drop k) s) ∧ Hid (Zero wr w.heap.size) ∧ Hid (Below w.heap.size w wr)) (fun i _ => len - (intOf i).toNat)
  case atStart => exact ⟨0, Nat.zero_le _, rfl, HR.out, Z0.out, B0.out⟩
  case round =>
    clear HR Z0 B0
    obtain ⟨k, hk, rfl, HR, hz, hbel⟩ := hrel
    obtain ⟨r0, r1, r2, f0, hrl⟩ := hz.out
    by_cases hlt : k < len
    · have hkL : k < L.length := by have := HL.out; omega
      rcases hN with hnil | ⟨b, off, rfl, hb, hc⟩
      · exfalso; rw [hnil] at hkL; exact absurd hkL (by simp)
      obtain ⟨c0, c1, c2⟩ : wr.cell? ⟨b, off + k * 3, none⟩ = some (.string L[k].1) ∧ wr.cell? ⟨b, off + k * 3 + 1, none⟩ = some (.int .i64 L[k].2.1) ∧ wr.cell? ⟨b, off + k * 3 + 2, none⟩ = some (.int .i64 L[k].2.2) := by
        obtain ⟨d0, d1, d2, d3⟩ := hc k hkL
        exact ⟨(hbel.out.cell (p := ⟨b, _, none⟩) hb).trans d0, (hbel.out.cell (p := ⟨b, _, none⟩) hb).trans d1, (hbel.out.cell (p := ⟨b, _, none⟩) hb).trans d2⟩
      have HF : Hid (R = if same L[k].1 s = true then some L[k] else find (L.drop (k + 1)) s) := by have := HR.out; rw [find_at hkL] at this; exact this
      clear hc HR
      obtain ⟨nm, bk, vl, hy⟩ : ∃ nm bk vl, L[k] = (nm, bk, vl) := ⟨_, _, _, rfl⟩
      rw [hy] at c0 c1 c2 HF
      simp only at c0 c1 c2
      have HF : Hid (R = if same nm s = true then some (nm, bk, vl) else find (L.drop (k + 1)) s) := HF
      clear hy
      by_cases hs : (nm.toList == s.toList) = true
      · have HV : Hid (symV R = .tuple #[.agg #[.string nm, .int .i64 bk, .int .i64 vl], .int .i64 0]) := by
          show _ = _
          rw [HF.out, if_pos (show same nm s = true from hs)]; rfl
        have ZP : Hid (∀ o, ((((wr.setCell ⟨w.heap.size, 0, none⟩ (.string nm)).setCell ⟨w.heap.size, 1, none⟩ (.int .i64 bk)).setCell ⟨w.heap.size, 2, none⟩ (.int .i64 vl)).alloc o).cell? ⟨w.heap.size, 0, none⟩ = some (.string nm) ∧ ((((wr.setCell ⟨w.heap.size, 0, none⟩ (.string nm)).setCell ⟨w.heap.size, 1, none⟩ (.int .i64 bk)).setCell ⟨w.heap.size, 2, none⟩ (.int .i64 vl)).alloc o).cell? ⟨w.heap.size, 1, none⟩ = some (.int .i64 bk) ∧ ((((wr.setCell ⟨w.heap.size, 0, none⟩ (.string nm)).setCell ⟨w.heap.size, 1, none⟩ (.int .i64 bk)).setCell ⟨w.heap.size, 2, none⟩ (.int .i64 vl)).alloc o).cell? ⟨w.heap.size, 2, none⟩ = some (.int .i64 vl)) := fun o => by
          obtain ⟨p0, p1, p2⟩ := hz.out.put (.string nm) (.int .i64 bk) (.int .i64 vl)
          have e : ∀ i, ((((wr.setCell ⟨w.heap.size, 0, none⟩ (.string nm)).setCell ⟨w.heap.size, 1, none⟩ (.int .i64 bk)).setCell ⟨w.heap.size, 2, none⟩ (.int .i64 vl)).alloc o).cell? ⟨w.heap.size, i, none⟩ = (((wr.setCell ⟨w.heap.size, 0, none⟩ (.string nm)).setCell ⟨w.heap.size, 1, none⟩ (.int .i64 bk)).setCell ⟨w.heap.size, 2, none⟩ (.int .i64 vl)).cell? ⟨w.heap.size, i, none⟩ := fun i => World.cell?_of_block (a := ⟨w.heap.size, i, none⟩) (Below.heap_alloc _ _ _ (by simpa [World.setCell] using hrl))
          exact ⟨(e 0).trans p0, (e 1).trans p1, (e 2).trans p2⟩
        clear HF hz
        go_wp2_with fail
        obtain ⟨p0, p1, p2⟩ := ZP.out (.cells #[.string nm, .int .i64 bk, .int .i64 vl] 68)
        exact bodyPost_ret (v := .tuple #[.agg #[.string nm, .int .i64 bk, .int .i64 vl], .int .i64 0]) (by simp [results, Tryd.results42, go_sem, p0, p1, p2]) rfl ⟨by rw [HV.out], (((hbel.out.setCell (Nat.le_refl _) _).setCell (Nat.le_refl _) _).setCell (Nat.le_refl _) _).alloc (by have := hbel.out.size; simpa [World.setCell] using this) _⟩
      · have hs : (nm.toList == s.toList) = false := by simpa using hs
        have HR2 : Hid (R = find (L.drop (k + 1)) s) := by have := HF.out; rw [if_neg (by unfold same; rw [hs]; decide)] at this; exact this
        have Z1 : Hid (∀ o, Zero (wr.alloc o) w.heap.size) := fun o => hz.out.below ((Below.refl _ _).alloc (Nat.le_refl _) _)
        clear HF hz
        go_wp2_with fail
        go_roundw
        case rel => exact ⟨k + 1, by omega, by go_num, HR2.out, Z1.out _, hbel.out.alloc hbel.out.size _⟩
        case measure => simp [intOf]; omega
    · have HV : Hid (symV R = .tuple #[.agg #[.string ⟨#[]⟩, .int .i64 0, .int .i64 0], .int .i64 2]) := by
        show _ = _
        rw [HR.out, List.drop_eq_nil_of_le (by have := HL.out; omega)]; rfl
      have ZP : Hid (_ ∧ _ ∧ _) := hz.out.put (.string ⟨#[]⟩) (.int .i64 0) (.int .i64 0)
      clear hN HR hz
      go_wp2_with fail
      obtain ⟨p0, p1, p2⟩ := ZP.out
      exact bodyPost_ret (v := .tuple #[.agg #[.string ⟨#[]⟩, .int .i64 0, .int .i64 0], .int .i64 2]) (by simp [results, Tryd.results42, go_sem, p0, p1, p2]) rfl ⟨by rw [HV.out], ((hbel.out.setCell (Nat.le_refl _) _).setCell (Nat.le_refl _) _).setCell (Nat.le_refl _) _⟩
/-- Where a name stands. -/
def Found (e : Ending) (L : List Sym) (s : ByteArray) : Prop := (find L s = none ∧ e = .returned (.int .i64 (-1))) ∨ ∃ (i : Nat) (h : i < L.length), find L s = some L[i] ∧ e = .returned (.int .i64 i)
set_option maxHeartbeats 1000000 in
theorem l2Sym_any (s : ByteArray) (a : Option Addr) (cap : Nat) (L : List Sym) (w : World) (hN : Syms w a L) (hlen : L.length ≤ 1048576) :
    Calls Tryd.prog 33 #[.slice a L.length cap, .string s] w fun e w' => Found e L s ∧ w' = w := by
  obtain ⟨len, hl⟩ : ∃ len, len = L.length := ⟨_, rfl⟩
  have HL : Hid (len = L.length) := hl
  rw [← hl] at hlen ⊢
  clear hl
  have HR : Hid (find L s = find (L.drop 0) s) := rfl
  go_enter Tryd.func33, Tryd.ntmps33
  go_wp2_with fail
  go_loopw [5] (fun i wr => ∃ k : Nat, k ≤ len ∧ i = .int .i64 k ∧ Hid (find L s = find (L.drop k) s) ∧ wr = w) (fun i _ => len - (intOf i).toNat)
  case atStart => exact ⟨0, Nat.zero_le _, rfl, HR.out, rfl⟩
  case round =>
    clear HR
    obtain ⟨k, hk, rfl, HR, rfl⟩ := hrel
    by_cases hlt : k < len
    · have hkL : k < L.length := by have := HL.out; omega
      rcases hN with hnil | ⟨b, off, rfl, hb, hc⟩
      · exfalso; rw [hnil] at hkL; exact absurd hkL (by simp)
      have c0 := (hc k hkL).1
      have HF : Hid (find L s = if same L[k].1 s = true then some L[k] else find (L.drop (k + 1)) s) := by have := HR.out; rw [find_at hkL] at this; exact this
      have HY : Hid (same L[k].1 s = true → find L s = some L[k]) := fun h => by have := HF.out; rw [if_pos h] at this; exact this
      have HZ : Hid (same L[k].1 s = false → find L s = find (L.drop (k + 1)) s) := fun h => by have := HF.out; rw [if_neg (by rw [h]; decide)] at this; exact this
      clear hc HR HF
      cases hs : same L[k].1 s
      · have hs' : (L[k].1.toList == s.toList) = false := hs
        have HR2 : Hid (find L s = find (L.drop (k + 1)) s) := HZ.out hs
        generalize L[k].1 = nm at c0 hs'
        clear HY HZ hs
        go_wp2_with fail
        go_roundw
        case rel => exact ⟨k + 1, by omega, by go_num, HR2.out, by first | rfl | trivial⟩
        case measure => simp [intOf]; omega
      · have hs' : (L[k].1.toList == s.toList) = true := hs
        have HR2 : Hid (find L s = some L[k]) := HY.out hs
        generalize L[k].1 = nm at c0 hs'
        clear HY HZ hs
        go_wp2_with fail
        go_ret
        exact ⟨.inr ⟨k, hkL, HR2.out, rfl⟩, rfl⟩
    · have HR2 : Hid (find L s = none) := by
        show _ = _
        rw [HR.out, List.drop_eq_nil_of_le (by have := HL.out; omega)]; rfl
      clear hN HR
      go_wp2_with fail
      go_ret
      exact ⟨.inl ⟨HR2.out, rfl⟩, rfl⟩
end Go.Proofs.YtlobkgohenebmaaDoor.Symn
