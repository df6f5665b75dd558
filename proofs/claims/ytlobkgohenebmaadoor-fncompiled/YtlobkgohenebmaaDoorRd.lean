/-
  Contracts of ours for the reader by which drawn inputs are made (spec's l1Rd): what each of its methods can answer, and that it writes nothing but its own place.
-/
import Derived.Test.YtlobkgohenebmaaDoorRows
import Derived.WalkKit
import Derived.ProofKit
import Derived.OpenShut
import Derived.Outline
import Derived.WalkLawsBesides
import Derived.Deep.QuietTactic
import Derived.BigQuiet
import Derived.LoopN
namespace Go.Proofs.YtlobkgohenebmaaDoor.Rdr
open Go.ChangeShapes Go.WideShapes Go.ChangeAt Go.RowKit

/-- A reader lies at block rb: its bytes, and its place among them. -/
def Rd (w : World) (rb : Nat) : Prop := ∃ (a : Option Addr) (len cap p : Nat), w.cell? ⟨rb, 0, none⟩ = some (.slice a len cap) ∧ w.cell? ⟨rb, 1, none⟩ = some (.int .i64 p) ∧ p ≤ len ∧ len ≤ maxLen ∧ w.frozen? ⟨rb, 1, none⟩ = false ∧
  (0 < len → ∃ b off, a = some ⟨b, off, none⟩ ∧ b < rb ∧ ∀ i, i < len → ∃ x : Int, 0 ≤ x ∧ x ≤ 255 ∧ w.cell? ⟨b, off + i, none⟩ = some (.int .u8 x))

/-- Where no old block has turned the reader is as it was. -/
theorem Rd.kept {w w' : World} {rb : Nat} (h : Rd w rb) (hk : ∀ k, k ≤ rb → w'.heap[k]? = w.heap[k]?) : Rd w' rb := by
  obtain ⟨a, len, cap, p, c0, c1, hp, hm, hf, hb⟩ := h
  have e : ∀ b o, b ≤ rb → w'.cell? ⟨b, o, none⟩ = w.cell? ⟨b, o, none⟩ := fun b o h => World.cell?_of_block (a := ⟨b, o, none⟩) (hk b h)
  refine ⟨a, len, cap, p, (e _ _ (Nat.le_refl _)).trans c0, (e _ _ (Nat.le_refl _)).trans c1, hp, hm, (World.frozen?_of_block (a := ⟨rb, 1, none⟩) (hk rb (Nat.le_refl _))).trans hf, fun hl => ?_⟩
  obtain ⟨b, off, ha, hbr, hx⟩ := hb hl
  refine ⟨b, off, ha, hbr, fun i hi => ?_⟩
  obtain ⟨x, x0, x1, hx⟩ := hx i hi
  exact ⟨x, x0, x1, (e _ _ (Nat.le_of_lt hbr)).trans hx⟩

theorem Rd.lt {w : World} {rb : Nat} (h : Rd w rb) : rb < w.heap.size := by
  obtain ⟨a, len, cap, p, c0, _⟩ := h
  exact World.block_lt_of_cell? w ⟨rb, 0, none⟩ c0

/-- One place on. -/
theorem Rd.step {w : World} {rb len cap p : Nat} {a : Option Addr} (c0 : w.cell? ⟨rb, 0, none⟩ = some (.slice a len cap)) (c1 : w.cell? ⟨rb, 1, none⟩ = some (.int .i64 p)) (hp : p < len) (hm : len ≤ maxLen) (hf : w.frozen? ⟨rb, 1, none⟩ = false)
    (hb : 0 < len → ∃ b off, a = some ⟨b, off, none⟩ ∧ b < rb ∧ ∀ i, i < len → ∃ x : Int, 0 ≤ x ∧ x ≤ 255 ∧ w.cell? ⟨b, off + i, none⟩ = some (.int .u8 x)) :
    Rd (w.setCell ⟨rb, 1, none⟩ (.int .i64 ((p : Int) + 1))) rb := by
  refine ⟨a, len, cap, p + 1, ?_, ?_, by omega, hm, ?_, fun hl => ?_⟩
  · exact (World.cell?_setCell_other w _ _ _ (by simp)).trans c0
  · exact (World.cell?_setCell_same w _ _ c1).trans (by simp)
  · rw [World.frozen?_setCell]; exact hf
  · obtain ⟨b, off, ha, hbr, hx⟩ := hb hl
    refine ⟨b, off, ha, hbr, fun i hi => ?_⟩
    obtain ⟨x, x0, x1, hx⟩ := hx i hi
    have hne : (⟨rb, 1, none⟩ : Addr) ≠ ⟨b, off + i, none⟩ := fun e => by have := congrArg Addr.block e; simp at this; omega
    exact ⟨x, x0, x1, (World.cell?_setCell_other w _ _ _ hne).trans hx⟩

theorem grown_set (w : World) (b i : Nat) (v : Value) : w.grownBy (w.setCell ⟨b, i, none⟩ v) (some b) :=
  ⟨rfl, rfl, rfl, by simp [World.setCell], fun k _ hne => Below.heap_setCell w _ _ k (fun e => hne (by rw [e]))⟩

/-- What a method of the reader leaves: a reader, and all else that was there as it was. -/
def Post (w : World) (rb : Nat) (w' : World) : Prop := Rd w' rb ∧ w.grownBy w' (some rb)
theorem Post.trans {a b c : World} {rb : Nat} (h : Post a rb b) (k : Post b rb c) : Post a rb c :=
  ⟨k.1, ⟨k.2.os.trans h.2.os, k.2.tape.trans h.2.tape, k.2.output.trans h.2.output, Nat.le_trans h.2.size k.2.size, fun i hi hne => (k.2.block i (Nat.lt_of_lt_of_le hi h.2.size) hne).trans (h.2.block i hi hne)⟩⟩
theorem Post.of {w w' : World} {rb : Nat} (h : Rd w rb) (hh : w'.heap = w.heap) (ho : w'.os = w.os) (ht : w'.tape = w.tape) (hp : w'.output = w.output) : Post w rb w' :=
  ⟨h.kept fun _ _ => by rw [hh], ⟨ho, ht, hp, by rw [hh]; exact Nat.le_refl _, fun _ _ _ => by rw [hh]⟩⟩
theorem Post.alloc {w w' : World} {rb : Nat} (h : Post w rb w') (o : Obj) : Post w rb (w'.alloc o) :=
  ⟨h.1.kept fun k hk => Below.heap_alloc w' o k (Nat.lt_of_le_of_lt hk h.1.lt), ⟨h.2.os, h.2.tape, h.2.output, Nat.le_trans h.2.size (by simp), fun k hk hne => (Below.heap_alloc w' o k (Nat.lt_of_lt_of_le hk h.2.size)).trans (h.2.block k hk hne)⟩⟩
theorem Post.refl {w : World} {rb : Nat} (h : Rd w rb) : Post w rb w := Post.of h rfl rfl rfl rfl
theorem Post.below {w w' : World} {rb B : Nat} (h : Post w rb w') (hB : B ≤ rb) (hr : rb ≤ w.heap.size) : Below B w w' :=
  ⟨h.2.os, h.2.tape, h.2.output, h.2.size, fun k hk => h.2.block k (by omega) (fun e => by cases e; omega)⟩

set_option maxHeartbeats 400000 in
theorem next_any (rb : Nat) (w : World) (h : Rd w rb) :
    Calls Tryd.prog 50 #[.pointer (some ⟨rb, 0, none⟩)] w fun e w' => (∃ x : Int, 0 ≤ x ∧ x ≤ 255 ∧ e = .returned (.int .i64 x)) ∧ Post w rb w' := by
  have H : Hid (Rd w rb) := h
  obtain ⟨a, len, cap, p, c0, c1, hp, hm, hf, hb⟩ := h
  unfold maxLen at hm
  by_cases hlt : p < len
  · obtain ⟨b, off, rfl, hbr, hx⟩ := hb (by omega)
    obtain ⟨x, x0, x1, hx⟩ := hx p hlt
    have hne : ¬ b = rb := by omega
    go_enter Tryd.func50, Tryd.ntmps50
    go_wp2
    go_quiet (fail)
    go_wp2
    go_quiet (fail)
    go_wp2
    go_ret
    have g := grown_set w rb 1 (.int .i64 ((p : Int) + 1))
    exact ⟨⟨x, x0, x1, rfl⟩, (Rd.step (w := w) c0 c1 hlt hm hf hb).kept fun _ _ => rfl, ⟨g.os, g.tape, g.output, g.size, g.block⟩⟩
  · clear hb
    go_enter Tryd.func50, Tryd.ntmps50
    go_wp2
    go_quiet (fail)
    go_wp2
    go_ret
    exact ⟨⟨0, by decide, by decide, rfl⟩, H.out.kept fun _ _ => rfl, ⟨rfl, rfl, rfl, Nat.le_refl _, fun _ _ _ => rfl⟩⟩

theorem wf_small {x : Int} (h0 : -1000000001 ≤ x) (h1 : x ≤ 1000000001) : (Lit.int .i64 x).wf = true := by
  simp [Lit.wf, IntKind.min, IntKind.max, IntKind.signed, IntKind.bits]; omega
theorem mod_bd {x n : Int} (h : 0 < n) : 0 ≤ x % n ∧ x % n < n := ⟨Int.emod_nonneg _ (by omega), Int.emod_lt_of_pos _ h⟩
theorem below_any (rb : Nat) (n : Int) (w : World) (h : Rd w rb) (h1 : 1 ≤ n) (h2 : n ≤ 1000000000) :
    Calls Tryd.prog 37 #[.pointer (some ⟨rb, 0, none⟩), .int .i64 n] w fun e w' => (∃ x : Int, 0 ≤ x ∧ x < n ∧ e = .returned (.int .i64 x)) ∧ Post w rb w' := by
  have H : Hid (Rd w rb) := h
  clear h
  by_cases n1 : n ≤ 1
  · go_enter Tryd.func37, Tryd.ntmps37
    go_wp2
    go_ret
    exact ⟨⟨0, by decide, by omega, rfl⟩, Post.refl H.out⟩
  by_cases n2 : n ≤ 256
  · go_enter Tryd.func37, Tryd.ntmps37
    go_wp2_with (go_at_call 50; refine (next_any _ _ H.out).mono ?_; rintro e w' ⟨⟨x, x0, x1, rfl⟩, hp⟩)
    go_ret
    obtain ⟨a, b⟩ := mod_bd (x := x) (n := n) (by omega)
    exact ⟨⟨x % n, a, b, rfl⟩, hp⟩
  · go_enter Tryd.func37, Tryd.ntmps37
    go_wp2_with fail
    refine (next_any _ _ H.out).mono ?_
    rintro e w1 ⟨⟨x, x0, x1, rfl⟩, hp⟩
    go_wp2_with fail
    refine (next_any _ _ hp.1).mono ?_
    rintro e w2 ⟨⟨y, y0, y1, rfl⟩, hp'⟩
    go_wp2
    go_ret
    obtain ⟨a, b⟩ := mod_bd (x := x * 256 + y) (n := n) (by omega)
    exact ⟨⟨(x * 256 + y) % n, a, b, rfl⟩, hp.trans hp'⟩

theorem once_any (rb : Nat) (n : Int) (w : World) (h : Rd w rb) (h1 : 1 ≤ n) (h2 : n ≤ 1000000000) :
    Calls Tryd.prog 20 #[.pointer (some ⟨rb, 0, none⟩), .int .i64 n] w fun e w' => (∃ x : Bool, e = .returned (.bool x)) ∧ Post w rb w' := by
  have H : Hid (Rd w rb) := h
  clear h
  go_enter Tryd.func20, Tryd.ntmps20
  go_wp2_with (go_at_call 37; refine (below_any _ _ _ H.out h1 h2).mono ?_; rintro e w' ⟨⟨x, x0, x1, rfl⟩, hp⟩)
  go_ret
  exact ⟨⟨_, rfl⟩, hp⟩

theorem wf_zero : (Lit.int .u64 0).wf = true := rfl
/-- What the walk is told of a slice of bytes that came in: it is nil; or it leads to a row of cells, the numbers zs, each fitting its kind. -/
def IsRow (k : IntKind) (w : World) (a : Option Addr) (len cap : Nat) (zs : List Int) : Prop :=
  (a = none ∧ len = 0 ∧ cap = 0 ∧ zs = []) ∨
  ∃ x, a = some x ∧ len ≤ cap ∧ cap ≤ maxLen ∧ zs.length = cap ∧ (∀ i, i < zs.length → w.cell? (x.add i) = some (.int k (zs.getD i 0))) ∧ ∀ n ∈ zs, (Lit.int k n).wf = true

theorem IsRow.below {k : IntKind} {w w' : World} {a : Option Addr} {len cap : Nat} {zs : List Int} (h : IsRow k w a len cap zs) (hb : Below w.heap.size w w') : IsRow k w' a len cap zs := by
  rcases h with h | ⟨x, hx, hl, hm, hz, hc, hw⟩
  · exact .inl h
  · refine .inr ⟨x, hx, hl, hm, hz, fun i hi => ?_, hw⟩
    rw [← hc i hi]
    exact hb.cell (World.block_lt_of_cell? w _ (hc i hi))

theorem IsRow.len {k : IntKind} {w : World} {a : Option Addr} {len cap : Nat} {zs : List Int} (h : IsRow k w a len cap zs) : len ≤ maxLen := by
  rcases h with ⟨_, rfl, _⟩ | ⟨x, _, h1, h2, _⟩
  · exact Nat.zero_le _
  · exact Nat.le_trans h1 h2

def bigB (len : Nat) : Bool := decide (1048576 < len)
theorem big_any (a : Option Addr) (len cap : Nat) (w : World) (hl : len ≤ maxLen) :
    Calls Tryd.prog 5 #[.slice a len cap] w fun e w' => e = .returned (.bool (bigB len)) ∧ w' = w := by
  unfold maxLen at hl
  go_enter Tryd.func5, Tryd.ntmps5
  go_wp2
  go_ret
  refine ⟨congrArg (fun b => Ending.returned (.bool b)) ?_, rfl⟩
  rw [Bool.eq_iff_iff]; simp [bigB]; try omega

/-- A new reader. -/
theorem Rd.new {w : World} {a : Option Addr} {len cap : Nat} {zs : List Int} (h : IsRow .u8 w a len cap zs) (t : TypeId) : Rd (w.alloc (.cells #[.slice a len cap, .int .i64 0] t)) w.heap.size := by
  refine ⟨a, len, cap, 0, ?_, ?_, Nat.zero_le _, ?_, ?_, fun hl => ?_⟩
  · exact World.cell?_alloc_new _ _ _ _
  · exact World.cell?_alloc_new _ _ _ _
  · rcases h with ⟨_, rfl, _⟩ | ⟨x, _, h1, h2, _⟩
    · exact Nat.zero_le _
    · exact Nat.le_trans h1 h2
  · exact World.frozen?_alloc_new _ _ _ _
  · rcases h with ⟨_, rfl, _⟩ | ⟨⟨b, off, spot⟩, rfl, h1, h2, h3, hc, hw⟩
    · exact absurd hl (Nat.lt_irrefl _)
    · have c0 := hc 0 (by omega)
      have hspot : spot = none := by simpa [Addr.add] using World.cell?_spot c0
      subst hspot
      have e : ∀ i, (⟨b, off, none⟩ : Addr).add i = ⟨b, off + i, none⟩ := fun i => by unfold Addr.add; split <;> simp_all
      have hb : b < w.heap.size := World.block_lt_of_cell? w ⟨b, off, none⟩ (by simpa [Addr.add] using c0)
      refine ⟨b, off, rfl, hb, fun i hi => ?_⟩
      have hi' : i < zs.length := by omega
      have := bounds_u8 (hw (zs.getD i 0) (by rw [List.getD_eq_getElem?_getD, List.getElem?_eq_getElem hi']; exact List.getElem_mem hi'))
      refine ⟨zs.getD i 0, this.1, this.2, ?_⟩
      rw [World.cell?_alloc_lt _ _ _ hb, ← e i]
      exact hc i hi'

theorem open_any (a : Option Addr) (len cap : Nat) (zs : List Int) (w : World) (h : IsRow .u8 w a len cap zs) :
    Calls Tryd.prog 18 #[.slice a len cap] w fun e w' => e = .returned (.pointer (some ⟨w.heap.size, 0, none⟩)) ∧ Rd w' w.heap.size ∧ Below w.heap.size w w' := by
  have H := Rd.new h
  clear h
  go_enter Tryd.func18, Tryd.ntmps18
  go_wp2
  go_ret
  exact ⟨rfl, H _, (Below.refl _ _).alloc (Nat.le_refl _) _⟩

end Go.Proofs.YtlobkgohenebmaaDoor.Rdr
