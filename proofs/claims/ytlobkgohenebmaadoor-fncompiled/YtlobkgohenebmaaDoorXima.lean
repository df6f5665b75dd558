/-
  Contracts of ours for the program's reader of expressions (impl.exprParser): next, skip, run, put, name, bank, opAt.
-/
import Derived.Test.YtlobkgohenebmaaDoorPrsm
import Derived.Test.YtlobkgohenebmaaDoorNodm
import Derived.Deep.QuietTactic
import Derived.BigQuiet
import Derived.Deep.RegionWith
import Derived.Deep.RegionLaw
import Derived.WalkLawsBesides
namespace Go.Proofs.YtlobkgohenebmaaDoor.Xima
open Go.ChangeShapes Go.WideShapes Go.ChangeAt Go.RowKit Go.Deep
open Nodm (cellsOf cells_snoc Own)
open Prsp
set_option linter.unusedVariables false
set_option maxRecDepth 20000

theorem infoN : (Tryd.prog.info? 36).map (fun i => (i.zero, i.size, i.bytes)) = some (some (.agg #[.int .i64 0, .int .i64 0, .string ⟨#[]⟩]), 3, 32) := by kernel_rfl
theorem info_parts {P : Program} {t : TypeId} {z : Value} {s b : Nat} (h : (P.info? t).map (fun i => (i.zero, i.size, i.bytes)) = some (some z, s, b)) : ∃ i, P.info? t = some i ∧ i.zero = some z ∧ i.size = s ∧ i.bytes = b := by
  cases e : P.info? t with
  | none => rw [e] at h; cases h
  | some i =>
    rw [e] at h
    simp at h
    exact ⟨i, rfl, h.1, h.2.1, h.2.2⟩

/-- A reader of a text s lies at block pb, at place k, with nodes L. -/
def PI (w : World) (pb : Nat) (s : ByteArray) (k : Nat) (L : List Stepx.Node) : Prop := ∃ (a : Option Addr) (cap : Nat),
  w.cell? ⟨pb, 0, none⟩ = some (.string s) ∧ w.cell? ⟨pb, 1, none⟩ = some (.int .i64 k) ∧ w.cell? ⟨pb, 2, none⟩ = some (.slice a L.length cap) ∧
  (∀ i, w.frozen? ⟨pb, i, none⟩ = false) ∧ k ≤ s.size ∧ s.size ≤ 200 ∧ L.length ≤ 30 ∧ Own w (pb + 1) (.slice a L.length cap) L
theorem PI.lt {w : World} {pb k : Nat} {s : ByteArray} {L : List Stepx.Node} (h : PI w pb s k L) : pb < w.heap.size := by
  obtain ⟨a, cap, c0, _⟩ := h
  exact World.block_lt_of_cell? w ⟨pb, 0, none⟩ c0
theorem PI.sz {w : World} {pb k : Nat} {s : ByteArray} {L : List Stepx.Node} (h : PI w pb s k L) : k ≤ s.size ∧ s.size ≤ 200 := by
  obtain ⟨a, cap, c0, c1, c2, cf, hk, hs, _⟩ := h
  exact ⟨hk, hs⟩
theorem PI.c0 {w : World} {pb k : Nat} {s : ByteArray} {L : List Stepx.Node} (h : PI w pb s k L) : w.cell? ⟨pb, 0, none⟩ = some (.string s) := by obtain ⟨a, cap, c0, c1, c2, cf, _⟩ := h; exact c0
theorem PI.c1 {w : World} {pb k : Nat} {s : ByteArray} {L : List Stepx.Node} (h : PI w pb s k L) : w.cell? ⟨pb, 1, none⟩ = some (.int .i64 k) := by obtain ⟨a, cap, c0, c1, c2, cf, _⟩ := h; exact c1
theorem PI.fz {w : World} {pb k : Nat} {s : ByteArray} {L : List Stepx.Node} (h : PI w pb s k L) (i : Nat) : w.frozen? ⟨pb, i, none⟩ = false := by obtain ⟨a, cap, c0, c1, c2, cf, _⟩ := h; exact cf i
theorem PI.len {w : World} {pb k : Nat} {s : ByteArray} {L : List Stepx.Node} (h : PI w pb s k L) : L.length ≤ 30 := by obtain ⟨a, cap, c0, c1, c2, cf, hk, hs, hl, _⟩ := h; exact hl
theorem PI.kept {w w' : World} {pb k : Nat} {s : ByteArray} {L : List Stepx.Node} (h : PI w pb s k L) (hb : Below w.heap.size w w') : PI w' pb s k L := by
  have hl := h.lt
  obtain ⟨a, cap, c0, c1, c2, cf, hk, hs, hl30, ho⟩ := h
  have e : ∀ i, w'.cell? ⟨pb, i, none⟩ = w.cell? ⟨pb, i, none⟩ := fun i => hb.cell (p := ⟨pb, i, none⟩) hl
  exact ⟨a, cap, (e 0).trans c0, (e 1).trans c1, (e 2).trans c2, fun i => (World.frozen?_of_block (a := ⟨pb, i, none⟩) (hb.block pb hl)).trans (cf i), hk, hs, hl30, Nodm.own_below ho hb⟩
theorem grown_set (w : World) (b i : Nat) (v : Value) : w.grownBy (w.setCell ⟨b, i, none⟩ v) (some b) :=
  ⟨rfl, rfl, rfl, by simp [World.setCell], fun k _ hne => Below.heap_setCell w _ _ k (fun e => hne (by rw [e]))⟩
theorem own_ne {w : World} {base pb : Nat} {v : Value} {L : List Stepx.Node} (h : Own w base v L) (hb : pb < base) : v.ownBlock = none ∨ v.ownBlock ≠ some pb := by
  rcases h.2 with ⟨rfl, _⟩ | ⟨g, c, cur, rfl, hg, _⟩
  · exact .inl rfl
  · refine .inr fun e => ?_
    have : g = pb := by simpa [Value.ownBlock] using e
    omega
theorem below_set {w : World} {pb i : Nat} {v : Value} : Below pb w (w.setCell ⟨pb, i, none⟩ v) :=
  have g := grown_set w pb i v
  ⟨g.os, g.tape, g.output, g.size, fun k hk => Below.heap_setCell w _ _ k (fun e => by have e : k = pb := e; omega)⟩
/-- The block of a reader's row. -/
def rowB (w : World) (pb : Nat) : Option Nat := (w.cell? ⟨pb, 2, none⟩).bind Value.ownBlock
/-- Of what was there the reader and its row alone have turned. -/
structure BK (pb : Nat) (w w' : World) : Prop where
  bel : Below pb w w'
  keep : ∀ b, b < w.heap.size → b ≠ pb → rowB w pb ≠ some b → w'.heap[b]? = w.heap[b]?
  row : rowB w' pb = rowB w pb ∨ ∃ b, rowB w' pb = some b ∧ w.heap.size ≤ b
theorem BK.size {pb : Nat} {w w' : World} (h : BK pb w w') : w.heap.size ≤ w'.heap.size := h.bel.size
theorem BK.refl (pb : Nat) (w : World) : BK pb w w := ⟨Below.refl _ _, fun _ _ _ _ => rfl, .inl rfl⟩
theorem BK.trans {pb : Nat} {w w1 w2 : World} (h : BK pb w w1) (h' : BK pb w1 w2) : BK pb w w2 := by
  refine ⟨h.bel.trans h'.bel, fun b hb hne hr => ?_, ?_⟩
  · refine (h'.keep b (Nat.lt_of_lt_of_le hb h.size) hne ?_).trans (h.keep b hb hne hr)
    rcases h.row with e | ⟨c, e, hc⟩
    · rw [e]; exact hr
    · rw [e]; intro q; have := Option.some.inj q; omega
  · rcases h'.row with e | ⟨c, e, hc⟩
    · rcases h.row with e2 | ⟨c, e2, hc⟩
      · exact .inl (e.trans e2)
      · exact .inr ⟨c, e.trans e2, hc⟩
    · exact .inr ⟨c, e, Nat.le_trans h.size hc⟩
theorem BK.of {pb : Nat} {w w' : World} (hl : pb < w.heap.size) (hb : Below w.heap.size w w') : BK pb w w' :=
  ⟨hb.mono (Nat.le_of_lt hl), fun b h _ _ => hb.block b h, .inl (by unfold rowB; rw [hb.cell (p := ⟨pb, 2, none⟩) hl])⟩
theorem bk_set {w : World} {pb i : Nat} {v : Value} (hi : i ≠ 2 := by decide) : BK pb w (w.setCell ⟨pb, i, none⟩ v) :=
  ⟨below_set, fun b _ hne _ => Below.heap_setCell w _ _ b (fun e => hne e), .inl (by
    unfold rowB
    rw [World.cell?_setCell_other w _ _ _ (fun e => by have := congrArg Addr.off e; simp at this; omega)])⟩
theorem PI.at_ {w : World} {pb k j : Nat} {s : ByteArray} {L : List Stepx.Node} (h : PI w pb s k L) (hj : j ≤ s.size) {z : Int} (hz : z = (j : Int)) : PI (w.setCell ⟨pb, 1, none⟩ (.int .i64 z)) pb s j L := by
  subst hz
  obtain ⟨a, cap, c0, c1, c2, cf, hk, hs, hl30, ho⟩ := h
  have e : ∀ i, i ≠ 1 → (w.setCell ⟨pb, 1, none⟩ (.int .i64 (j : Int))).cell? ⟨pb, i, none⟩ = w.cell? ⟨pb, i, none⟩ := fun i hi => World.cell?_setCell_other w _ _ _ (fun e => by have := congrArg Addr.off e; simp at this; omega)
  exact ⟨a, cap, (e 0 (by decide)).trans c0, World.cell?_setCell_same w _ _ c1, (e 2 (by decide)).trans c2, fun i => by rw [World.frozen?_setCell]; exact cf i, hj, hs, hl30, ho.kept (grown_set w pb 1 _) (own_ne ho (by omega))⟩
theorem PI.c3 {w : World} {pb k i : Nat} {s : ByteArray} {L : List Stepx.Node} (h : PI w pb s k L) (hi : 3 ≤ i) (v : Value) : PI (w.setCell ⟨pb, i, none⟩ v) pb s k L := by
  obtain ⟨a, cap, c0, c1, c2, cf, hk, hs, hl30, ho⟩ := h
  have e : ∀ j, j ≠ i → (w.setCell ⟨pb, i, none⟩ v).cell? ⟨pb, j, none⟩ = w.cell? ⟨pb, j, none⟩ := fun j hj => World.cell?_setCell_other w _ _ _ (fun e => by have := congrArg Addr.off e; simp at this; omega)
  exact ⟨a, cap, (e 0 (by omega)).trans c0, (e 1 (by omega)).trans c1, (e 2 (by omega)).trans c2, fun i => by rw [World.frozen?_setCell]; exact cf i, hk, hs, hl30, ho.kept (grown_set w pb i _) (own_ne ho (by omega))⟩
theorem PI.drewN {w : World} {pb k : Nat} {s : ByteArray} {L : List Stepx.Node} (h : PI w pb s k L) (n : Nat) : PI (w.drewN n) pb s k L := h.kept (below_drewN (Below.refl _ _) n)
theorem drewN_refl (w : World) : ∀ k : Nat, Below w.heap.size w (w.drewN k)
  | 0 => Below.refl _ _
  | k + 1 => (drewN_refl w k).drew
theorem PI.out_ {w w3 : World} {pb k : Nat} {s : ByteArray} {a : Option Addr} {cap : Nat} {L : List Stepx.Node} {v' : Value} {x : Stepx.Node} {o : Obj}
    (c0 : w.cell? ⟨pb, 0, none⟩ = some (.string s)) (c1 : w.cell? ⟨pb, 1, none⟩ = some (.int .i64 k)) (c2 : w.cell? ⟨pb, 2, none⟩ = some (.slice a L.length cap))
    (cf : ∀ i, w.frozen? ⟨pb, i, none⟩ = false) (hk : k ≤ s.size) (hs : s.size ≤ 200) (hl : L.length < 30) (ho : Own w (pb + 1) (.slice a L.length cap) L)
    (hown : w3.ownsRow (pb + 1) 36 3 v' (L.length + 1) (cellsOf L ++ [.int .i64 x.1, .int .i64 x.2.1, .string x.2.2])) (hgr : (w.alloc o).grownBy w3 (Value.slice a L.length cap).ownBlock) (hat : v'.ownBlock = (Value.slice a L.length cap).ownBlock ∨ v'.ownBlock = some (w.alloc o).heap.size) :
    PI (w3.setCell ⟨pb, 2, none⟩ v') pb s k (L ++ [x]) ∧ BK pb w (w3.setCell ⟨pb, 2, none⟩ v') ∧ (∀ i, w3.cell? ⟨pb, i, none⟩ = w.cell? ⟨pb, i, none⟩) ∧ w3.frozen? ⟨pb, 2, none⟩ = false := by
  have hlt : pb < w.heap.size := World.block_lt_of_cell? w ⟨pb, 0, none⟩ c0
  have hne := own_ne ho (Nat.lt_succ_self pb)
  have hb : w3.heap[pb]? = w.heap[pb]? := by
    rw [hgr.block pb (by simp; omega) (fun e => by rcases hne with h | h <;> rw [← e] at h <;> simp at h)]
    exact Below.heap_alloc w o pb hlt
  have e : ∀ i, w3.cell? ⟨pb, i, none⟩ = w.cell? ⟨pb, i, none⟩ := fun i => World.cell?_of_block (a := ⟨pb, i, none⟩) hb
  have fz : ∀ i, w3.frozen? ⟨pb, i, none⟩ = false := fun i => (World.frozen?_of_block (a := ⟨pb, i, none⟩) hb).trans (cf i)
  have e2 : ∀ i, i ≠ 2 → (w3.setCell ⟨pb, 2, none⟩ v').cell? ⟨pb, i, none⟩ = w.cell? ⟨pb, i, none⟩ := fun i hi => (World.cell?_setCell_other w3 _ _ _ (fun e => by have := congrArg Addr.off e; simp at this; omega)).trans (e i)
  have hL : (L ++ [x]).length = L.length + 1 := by simp
  have own' : Own w3 (pb + 1) v' (L ++ [x]) := by show World.ownsRow _ _ _ _ _ _ _; rw [hL, cells_snoc]; exact hown
  obtain ⟨a', cap', rfl⟩ : ∃ a' cap', v' = .slice a' (L ++ [x]).length cap' := by
    rcases own'.2 with ⟨rfl, h0⟩ | ⟨g, c, cur, rfl, _⟩
    · rw [hL] at h0; omega
    · exact ⟨_, _, rfl⟩
  refine ⟨⟨a', cap', (e2 0 (by decide)).trans c0, (e2 1 (by decide)).trans c1, World.cell?_setCell_same w3 _ _ ((e 2).trans c2), fun i => by rw [World.frozen?_setCell]; exact fz i, hk, hs, by rw [hL]; omega, own'.kept (grown_set w3 pb 2 _) (own_ne own' (Nat.lt_succ_self pb))⟩, ⟨⟨?_, ?_, ?_, ?_, fun j hj => ?_⟩, fun b hb hne2 hrb => ?_, ?_⟩, e, fz 2⟩
  · exact hgr.os
  · exact hgr.tape
  · exact hgr.output
  · have := hgr.size; have h2 : (w3.setCell ⟨pb, 2, none⟩ (.slice a' (L ++ [x]).length cap')).heap.size = w3.heap.size := by simp [World.setCell]
    rw [h2]; simp at this; omega
  · rw [Below.heap_setCell w3 _ _ j (fun e => by have e : j = pb := e; omega)]
    have hne' := own_ne ho (show j < pb + 1 by omega)
    rw [hgr.block j (by simp; omega) (fun e => by rcases hne' with h | h <;> rw [← e] at h <;> simp at h)]
    exact Below.heap_alloc w o j (by omega)
  · have hr2 : rowB w pb = (Value.slice a L.length cap).ownBlock := by unfold rowB; rw [c2]; rfl
    rw [Below.heap_setCell w3 _ _ b (fun e => hne2 e)]
    rw [hgr.block b (by simp; omega) (fun e => hrb (by rw [hr2]; exact e.symm))]
    exact Below.heap_alloc w o b hb
  · have hr2 : rowB w pb = (Value.slice a L.length cap).ownBlock := by unfold rowB; rw [c2]; rfl
    have hr3 : rowB (w3.setCell ⟨pb, 2, none⟩ (.slice a' (L ++ [x]).length cap')) pb = (Value.slice a' (L ++ [x]).length cap').ownBlock := by unfold rowB; rw [World.cell?_setCell_same w3 _ _ ((e 2).trans c2)]; rfl
    rcases hat with h | h
    · exact .inl (by rw [hr2, hr3]; exact h)
    · exact .inr ⟨_, by rw [hr3]; exact h, by simp⟩

/-- It panics. -/
def Pan (pb : Nat) (w : World) (e : Ending) (w' : World) : Prop := (∃ (u : TypeId) (pv : Value), e = .panicked [{ v := .iface u pv, recovered := false }]) ∧ Below pb w w'
/-- What a method leaves: it panics, or stands at a later place. -/
def RI (pb : Nat) (s : ByteArray) (k : Nat) (R : Option St) (w : World) (e : Ending) (w' : World) : Prop := match R with
  | none => Pan pb w e w'
  | some st => e = .returned (.tuple #[]) ∧ (∃ j, k ≤ j ∧ st.1 = s.data.toList.drop j ∧ PI w' pb s j st.2) ∧ BK pb w w'
@[irreducible] def hdK (s : ByteArray) (k : Nat) : Int := hd (s.data.toList.drop k)
theorem hdK_def (s : ByteArray) (k : Nat) : hdK s k = hd (s.data.toList.drop k) := by unfold hdK; rfl

set_option maxHeartbeats 1000000 in
theorem next_any (pb k : Nat) (s : ByteArray) (L : List Stepx.Node) (w : World) (h : PI w pb s k L) :
    Calls Tryd.prog 51 #[.pointer (some ⟨pb, 0, none⟩)] w fun e w' => e = .returned (.int .u8 (hdK s k)) ∧ PI w' pb s k L ∧ Below w.heap.size w w' := by
  have H : Hid (PI w pb s k L) := h
  have c0 := h.c0
  have c1 := h.c1
  have hk := h.sz.1
  clear h
  by_cases hlt : k < s.size
  · obtain ⟨c, hc⟩ : ∃ c : Int, c = (s[k].toNat : Int) := ⟨_, rfl⟩
    have e1 : hdK s k = c := by rw [hdK_def, hd_in s k hlt, hc]
    rw [e1]
    have d0 : ((k : Int) == (s.size : Int)) = false := by simp; omega
    have d1 : decide ((k : Int) = (s.size : Int)) = false := by simp; omega
    have ix : ∀ w, (Instr.index 9 (.string s) (.int .i64 (k : Int))).run Tryd.prog w = .ok (.int .u8 c) w := fun w => by
      rw [run_index_string (P := Tryd.prog) w 9 s .i64 (k : Int) Tryd.underlying9, dif_pos ⟨by omega, by omega⟩, hc]; rfl
    clear hc e1 hk
    go_enter Tryd.func51, Tryd.ntmps51
    go_wp2
    go_quiet (fail)
    go_wp2
    go_quiet (fail)
    go_wp2
    go_ret
    exact ⟨rfl, (H.out.drewN _).drewN _, below_drewN (drewN_refl w _) _⟩
  · have e1 : hdK s k = 0 := by rw [hdK_def, hd_end s k (by omega)]
    have e2 : k = s.size := by omega
    rw [e1]
    clear e1
    have d0 : ((k : Int) == (s.size : Int)) = true := by simp; omega
    have d1 : decide ((k : Int) = (s.size : Int)) = true := by simp; omega
    clear hk hlt e2
    go_enter Tryd.func51, Tryd.ntmps51
    go_wp2
    go_quiet (fail)
    go_wp2
    go_ret
    exact ⟨rfl, H.out.drewN _, drewN_refl w _⟩
end Go.Proofs.YtlobkgohenebmaaDoor.Xima
