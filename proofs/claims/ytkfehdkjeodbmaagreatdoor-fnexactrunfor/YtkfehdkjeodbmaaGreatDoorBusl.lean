/-
  What the laws over a machine's change ask of both functions: BusWrite told as one thing; what stays.
-/
import Derived.Test.YtkfehdkjeodbmaaGreatDoorMact
namespace Go.Proofs.YtkfehdkjeodbmaaGreatDoor.Busl
open Go.ChangeShapes Go.WideShapes Go.ChangeAt Go.RowKit Go.Deep
set_option linter.unusedVariables false
set_option linter.unusedSimpArgs false
set_option maxRecDepth 20000
open Carts CartK CartL Outs Mach MachT Busw Busx Busy Busz Busm Mact
/-- The cells below n are as they were. -/
def Kp (n : Nat) (u W : World) : Prop := n ≤ W.heap.size ∧ ∀ k, k < n → W.heap[k]? = u.heap[k]?
theorem Kp.of {u W : World} (h : Below u.heap.size u W) : Kp u.heap.size u W := ⟨h.size, h.block⟩
theorem Kp.step {n : Nat} {u W W' : World} (h : Kp n u W) (hb : Below W.heap.size W W') : Kp n u W' := ⟨Nat.le_trans h.1 hb.size, fun k hk => (hb.block k (Nat.lt_of_lt_of_le hk h.1)).trans (h.2 k hk)⟩
theorem Kp.mid {n : Nat} {u W W' : World} {o : Obj} {B m k : Nat} {k0 : Int} (h : Kp n u W) (hm : Mid (W.alloc o) W' (some ⟨B, 0, none⟩) m k k0) (hB : n ≤ B) : Kp n u W' :=
  ⟨by rw [hm.size]; simp; exact Nat.le_trans h.1 (by omega), fun j hj => (hm.grown.block j (by simp; have := h.1; omega) (by simp [blockOf]; omega)).trans ((alloc_kept _ _ (Nat.lt_of_lt_of_le hj h.1)).trans (h.2 j hj))⟩
theorem row_kp {u W : World} {po : Option Addr} {L : List Int} (h : Row u po L) (hk : Kp u.heap.size u W) : Row W po L := by
  rcases h with h | ⟨b, off, hp, hl, hc⟩
  · exact .inl h
  · exact .inr ⟨b, off, hp, Nat.lt_of_lt_of_le hl hk.1, fun i hi => (World.cell?_of_block (a := ⟨b, _, none⟩) (hk.2 b hl)).trans (hc i hi)⟩
def rM (m : M) (addr v : Int) : M := (bwM m addr v).getD Z0
def rF (m : M) (addr v : Int) : Bool := (bwM m addr v).isSome
def Told (w w' : World) (R : M) (f : Bool) (e : Ending) : Prop := (∃ po' cap', e = .returned (.tuple #[.agg (cellsM R po' cap'), .bool f]) ∧ w'.ownsRow w.heap.size 2 1 (.slice po' R.out.length cap') R.out.length (outC R.out)) ∧ Below w.heap.size w w'
theorem told_of {w w' : World} {r : Option M} {e : Ending} (h : ((∃ m' po' cap', r = some m' ∧ e = .returned (.tuple #[.agg (cellsM m' po' cap'), .bool true]) ∧ w'.ownsRow w.heap.size 2 1 (.slice po' m'.out.length cap') m'.out.length (outC m'.out)) ∨ (r = none ∧ e = .returned (.tuple #[.agg (cellsM Z0 none 0), .bool false]))) ∧ Below w.heap.size w w') : Told w w' (r.getD Z0) r.isSome e := by
  obtain ⟨⟨m', po', cap', rfl, he, ho⟩ | ⟨rfl, he⟩, hb⟩ := h
  · exact ⟨⟨po', cap', he, ho⟩, hb⟩
  · exact ⟨⟨none, 0, he, World.ownsRow_nil _ _ _ _⟩, hb⟩
theorem rM_len {m : M} {addr v : Int} (hs : Sm m) : (rM m addr v).out.length ≤ 1048576 := by
  unfold rM bwM
  split
  · rename_i h
    cases hw : wrM m addr v with
    | none => show Z0.out.length ≤ _; simp [Z0]
    | some m' => exact wrM_len (rt_of h.1 hs) hw
  · show Z0.out.length ≤ _; simp [Z0]
theorem infoN (m : M) (po : Option Addr) (cap : Nat) : (Tryz.prog.info? 28).map (·.size) = some (cellsM m po cap).size := by rw [size_M]; kernel_rfl
theorem own_stay {u W : World} {base n : Nat} {v : Value} {xs : List Value} (h : u.ownsRow base 2 1 v n xs) (hb : Below u.heap.size u W) : W.ownsRow base 2 1 v n xs := by
  rcases h with ⟨h1, h2 | ⟨g, c, cur, hv, hb', hg, r⟩⟩
  · exact ⟨h1, .inl h2⟩
  · exact ⟨h1, .inr ⟨g, c, cur, hv, hb', (hb.block g (Array.getElem?_eq_some_iff.1 hg).1).trans hg, r⟩⟩
theorem blk_mid {W W' : World} {o : Obj} {po : Option Addr} {n k : Nat} {k0 : Int} (hm : Mid (W.alloc o) W' po n k k0) {b : Nat} (hb : b < W.heap.size) (hne : ∀ p, po = some p → p.block ≠ b) : W'.heap[b]? = W.heap[b]? :=
  (hm.grown.block b (by simp; omega) (fun e => by
    cases po with
    | none => cases e
    | some p => exact hne p rfl (Option.some.inj e).symm)).trans (alloc_kept _ _ hb)
theorem kp_mid {u W W' : World} {o : Obj} {po : Option Addr} {n k N : Nat} {k0 : Int} (h : Kp N u W) (hm : Mid (W.alloc o) W' po n k k0) (hne : ∀ p, po = some p → N ≤ p.block) : Kp N u W' :=
  ⟨by rw [hm.size]; simp; exact Nat.le_trans h.1 (by omega), fun j hj => (blk_mid hm (Nat.lt_of_lt_of_le hj h.1) (fun p e => by have := hne p e; omega)).trans (h.2 j hj)⟩
theorem below_mid {w W W' : World} {o : Obj} {po : Option Addr} {n k : Nat} {k0 : Int} (h : Below w.heap.size w W) (hm : Mid (W.alloc o) W' po n k k0) (hne : ∀ p, po = some p → w.heap.size ≤ p.block) : Below w.heap.size w W' :=
  ⟨hm.grown.os.trans h.os, hm.grown.tape.trans h.tape, hm.grown.output.trans h.output, by rw [hm.size]; simp; exact Nat.le_trans h.size (by omega), fun j hj => (blk_mid hm (Nat.lt_of_lt_of_le hj h.size) (fun p e => by have := hne p e; omega)).trans (h.block j hj)⟩
theorem own_mid {W W' : World} {o : Obj} {B n k base n' : Nat} {k0 : Int} {v : Value} {xs : List Value} (h : W.ownsRow base 2 1 v n' xs) (hm : Mid (W.alloc o) W' (some ⟨B, 0, none⟩) n k k0) (hB : B < base) : W'.ownsRow base 2 1 v n' xs := by
  rcases h with ⟨h1, h2 | ⟨g, c, cur, hv, hb', hg, r⟩⟩
  · exact ⟨h1, .inl h2⟩
  · exact ⟨h1, .inr ⟨g, c, cur, hv, hb', (blk_mid hm (Array.getElem?_eq_some_iff.1 hg).1 (fun p e => by cases e; show B ≠ g; omega)).trans hg, r⟩⟩
theorem is_below {W W' : World} {po : Option Addr} {n : Nat} {f : Nat → Int} (h : Is W po n f) (hb : Below W.heap.size W W') : Is W' po n f := fun i hi => by
  obtain ⟨b, off, e, hl, hz⟩ := h i hi
  exact ⟨b, off, e, Nat.lt_of_lt_of_le hl hb.size, (hb.cell (p := ⟨b, _, none⟩) hl).trans hz⟩
theorem row_box {w : World} {base n cap B : Nat} {po : Option Addr} {xs : List Value} {cs : Array Value} {fz : Nat × Nat} (h : w.ownsRow base 2 1 (.slice po n cap) n xs) (hb : w.heap[B]? = some (.cells cs 33 fz)) (p : Addr) (e : po = some p) : p.block ≠ B := fun e2 => row_ne h hb (by subst e; rw [← e2]; rfl)
end Go.Proofs.YtkfehdkjeodbmaaGreatDoor.Busl
