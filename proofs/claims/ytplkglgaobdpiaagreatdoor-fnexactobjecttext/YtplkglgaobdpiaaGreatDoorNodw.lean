/-
  What the rows of nodes lack beside Mirror: sizes from any number on.
-/
import Derived.Test.YtplkglgaobdpiaaGreatDoorMirror
namespace Go.Proofs.YtplkglgaobdpiaaGreatDoor.Nodw
open Go.ChangeShapes Go.WideShapes Go.ChangeAt Go.RowKit Go.Deep
set_option linter.unusedVariables false
set_option maxRecDepth 20000
open Go.Proofs.YtplkglgaobdpiaaGreatDoor.Stepx (Nodes)
open Mirror (left szENode_any)
/-- A row of nodes, at N or above. -/
def Row (N : Nat) (w : World) (a : Option Addr) (L : List Stepx.Node) : Prop := Nodes w a L ∧ (L = [] ∨ ∃ p : Addr, a = some p ∧ N ≤ p.block)
theorem Row.kept {N : Nat} {w w' : World} {a : Option Addr} {L : List Stepx.Node} (h : Row N w a L) (hk : ∀ k, N ≤ k → k < w.heap.size → w'.heap[k]? = w.heap[k]?) (hs : w.heap.size ≤ w'.heap.size) : Row N w' a L := by
  rcases h with ⟨h | ⟨b, off, rfl, hl, hc⟩, hn | ⟨p, hp, hN⟩⟩
  · exact ⟨.inl h, .inl hn⟩
  · exact ⟨.inl h, .inl h⟩
  · exact ⟨.inl hn, .inl hn⟩
  · cases hp
    refine ⟨.inr ⟨b, off, rfl, Nat.lt_of_lt_of_le hl hs, fun i hi => ?_⟩, .inr ⟨_, rfl, hN⟩⟩
    have e : ∀ i, w'.cell? ⟨b, i, none⟩ = w.cell? ⟨b, i, none⟩ := fun i => World.cell?_of_block (a := ⟨b, i, none⟩) (hk b hN hl)
    obtain ⟨d0, d1, d2, d3⟩ := hc i hi
    exact ⟨(e _).trans d0, (e _).trans d1, (e _).trans d2, d3⟩
theorem Row.mono {N N' : Nat} {w : World} {a : Option Addr} {L : List Stepx.Node} (h : Row N w a L) (hN : N' ≤ N) : Row N' w a L :=
  ⟨h.1, h.2.imp id fun ⟨p, hp, h2⟩ => ⟨p, hp, Nat.le_trans hN h2⟩⟩
theorem Row.below {N : Nat} {w w' : World} {a : Option Addr} {L : List Stepx.Node} (h : Row N w a L) (hb : Below w.heap.size w w') : Row N w' a L := h.kept (fun k _ hk => hb.block k hk) hb.size
theorem row_zero {w : World} {a : Option Addr} {L : List Stepx.Node} (h : Nodes w a L) : Row 0 w a L :=
  ⟨h, by rcases h with h | ⟨b, off, rfl, _, _⟩; exact .inl h; exact .inr ⟨_, rfl, Nat.zero_le _⟩⟩
theorem row_of {H : Type} {enc : TypeId × Value → H} {w : World} {base : Nat} {spare : Nat → Bool} {held : Bool} {fuel : Nat} {cs : List Value} {x : DataW H × List MemPlace}
    (h : DataW.trod enc Tryz.prog w base spare held fuel 106 cs = some x) : ∃ a len cap L, cs = [.slice a len cap] ∧ L.length = len ∧ len ≤ maxLen ∧ Row 0 w a L := by
  obtain ⟨a, len, cap, L, h1, h2, h3, h4⟩ := Mirror.nodes_of h
  exact ⟨a, len, cap, L, h1, h2, h3, row_zero h4⟩
def Small (L : List Stepx.Node) : Prop := L.length ≤ 1048576
set_option maxHeartbeats 1000000 in
theorem szXS_any (a : Option Addr) (cap : Nat) (L : List Stepx.Node) (m0 : Int) (w : World) (hN0 : Row 0 w a L) (hlen : L.length ≤ maxLen) (h0 : 0 ≤ m0) (h1 : m0 ≤ 1048576) :
    Calls Tryz.prog 69 #[.slice a L.length cap, .int .i64 m0] w fun e w' => (∃ q : Int, e = .returned (.int .i64 q) ∧ (q = -1 ∨ (0 ≤ q ∧ q ≤ m0 ∧ Small L))) ∧ Below w.heap.size w w' := by
  have hN := hN0.1
  clear hN0
  unfold maxLen at hlen
  obtain ⟨len, hl⟩ : ∃ len, len = L.length := ⟨_, rfl⟩
  have HL : Hid (len = L.length) := hl
  rw [← hl] at hlen ⊢
  clear hl
  by_cases hbig : m0 - (len : Int) < 0
  · clear hN
    go_enter Tryz.func69, Tryz.ntmps69
    go_wp2
    go_ret
    exact ⟨⟨-1, rfl, .inl rfl⟩, Below.refl _ _⟩
  go_enter Tryz.func69, Tryz.ntmps69
  go_wp2
  go_loopw [1, 5] (fun v i wr => ∃ (k : Nat) (m : Int), k ≤ len ∧ 0 ≤ m ∧ m ≤ m0 ∧ i = .int .i64 k ∧ v = .int .i64 m ∧ Hid (Below w.heap.size w wr)) (fun _ i _ => len - (intOf i).toNat)
  case atStart => exact ⟨0, _, Nat.zero_le _, by omega, by omega, rfl, rfl, Below.refl _ _⟩
  case round =>
    obtain ⟨k, m, hk, hm0, hm1, rfl, rfl, hbel⟩ := hrel
    by_cases hlt : k < len
    · have hkL : k < L.length := by have := HL.out; omega
      rcases hN with hnil | ⟨b, off, rfl, hb, hc⟩
      · exfalso; rw [hnil] at hkL; exact absurd hkL (by simp)
      obtain ⟨c0, c1, c2, hsz⟩ : wr.cell? ⟨b, off + k * 3, none⟩ = some (.int .i64 L[k].1) ∧ wr.cell? ⟨b, off + k * 3 + 1, none⟩ = some (.int .i64 L[k].2.1) ∧ wr.cell? ⟨b, off + k * 3 + 2, none⟩ = some (.string L[k].2.2) ∧ L[k].2.2.size ≤ maxLen := by
        obtain ⟨d0, d1, d2, d3⟩ := hc k hkL
        exact ⟨(hbel.out.cell (p := ⟨b, _, none⟩) hb).trans d0, (hbel.out.cell (p := ⟨b, _, none⟩) hb).trans d1, (hbel.out.cell (p := ⟨b, _, none⟩) hb).trans d2, d3⟩
      clear hc
      obtain ⟨kd, n, s, hnode⟩ : ∃ kd n s, L[k] = (kd, n, s) := ⟨_, _, _, rfl⟩
      rw [hnode] at c0 c1 c2 hsz
      simp only at c0 c1 c2 hsz
      clear hnode
      have cs := fun W => szENode_any kd n m s W hsz hm0 (by omega)
      have hq : left m s = -1 ∨ (0 ≤ left m s ∧ left m s ≤ m) := by
        unfold left; by_cases h : m - s.size < 0
        · rw [if_pos h]; exact .inl rfl
        · rw [if_neg h]; omega
      generalize left m s = q at cs hq
      go_wp2_with fail
      refine (cs _).mono ?_
      rintro e w1 ⟨rfl, hb1⟩
      have bel1 : Hid (Below w.heap.size w w1) := hbel.out.trans (hb1.mono hbel.out.size)
      clear hb1 hbel
      rcases hq with rfl | ⟨q0, q1⟩
      · go_wp2
        go_ret
        exact ⟨⟨-1, rfl, .inl rfl⟩, bel1.out⟩
      · go_wp2
        go_roundw
        case rel => exact ⟨k + 1, q, by omega, q0, by omega, by go_num, rfl, bel1.out⟩
        case measure => simp [intOf]; omega
    · have SM : Hid (Small L) := by show L.length ≤ 1048576; have := HL.out; omega
      clear hN
      go_wp2
      go_ret
      exact ⟨⟨m, rfl, .inr ⟨hm0, hm1, SM.out⟩⟩, hbel.out⟩
theorem toXS_any (a : Option Addr) (cap : Nat) (L : List Stepx.Node) (w : World) (hN : Row 0 w a L) (hsm : Small L) :
    Calls Tryz.prog 76 #[.slice a L.length cap] w fun e w' => (∃ (a' : Option Addr) (c' : Nat), e = .returned (.slice a' L.length c') ∧ Row w.heap.size w' a' L) ∧ Below w.heap.size w w' := by
  refine (Mirror.toENodeS_any a cap L w hN.1 hsm).mono ?_
  rintro e w' ⟨⟨c, rfl, h⟩, hb⟩
  exact ⟨⟨_, _, rfl, h, .inr ⟨_, rfl, Nat.le_refl _⟩⟩, hb⟩
theorem eqXS_any (a a' : Option Addr) (cap cap' : Nat) (L : List Stepx.Node) (w : World) (hN : Row 0 w a L) (hN' : Row 0 w a' L) (hsm : Small L) :
    Calls Tryz.prog 86 #[.slice a L.length cap, .slice a' L.length cap'] w fun e w' => e = .returned (.bool true) ∧ Below w.heap.size w w' := Mirror.eqENodeS_any a a' cap cap' L w hN.1 hN'.1 hsm
end Go.Proofs.YtplkglgaobdpiaaGreatDoor.Nodw
