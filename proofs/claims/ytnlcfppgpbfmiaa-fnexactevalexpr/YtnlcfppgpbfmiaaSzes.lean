/-
  Sizes of nodes and of symbols one behind the other (the laws' own helpers).
-/
import Derived.Test.YtnlcfppgpbfmiaaMirror
import Derived.Test.YtnlcfppgpbfmiaaSymr
namespace Go.Proofs.Ytnlcfppgpbfmiaa.Szes
open Go.ChangeShapes Go.WideShapes Go.ChangeAt Go.RowKit Go.Deep
open Go.Proofs.Ytnlcfppgpbfmiaa.Stepx (Nodes)
set_option maxRecDepth 20000

set_option maxHeartbeats 1000000 in
theorem szENodeS_top (a : Option Addr) (cap : Nat) (L : List Stepx.Node) (w : World) (hN : Nodes w a L) (hlen : L.length ≤ maxLen) :
    Calls Try.prog 5 #[.slice a L.length cap, .int .i64 1048576] w fun e w' => (∃ x : Int, e = .returned (.int .i64 x) ∧ (x < 0 ∨ (0 ≤ x ∧ x ≤ 1048576 ∧ L.length ≤ 1048576))) ∧ Below w.heap.size w w' := by
  unfold maxLen at hlen
  obtain ⟨len, hl⟩ : ∃ len, len = L.length := ⟨_, rfl⟩
  have HL : Hid (len = L.length) := hl
  rw [← hl] at hlen ⊢
  clear hl
  by_cases hbig : 1048576 < len
  · clear hN
    go_enter Try.func5, Try.ntmps5
    go_wp2
    go_ret
    exact ⟨⟨-1, rfl, .inl (by decide)⟩, Below.refl _ _⟩
  go_enter Try.func5, Try.ntmps5
  go_wp2
  go_loopw [1, 5] (fun v i wr => ∃ (k : Nat) (m : Int), k ≤ len ∧ 0 ≤ m ∧ m ≤ 1048576 ∧ i = .int .i64 k ∧ v = .int .i64 m ∧ Hid (Below w.heap.size w wr)) (fun _ i _ => len - (intOf i).toNat)
  case atStart => exact ⟨0, _, Nat.zero_le _, by omega, by omega, rfl, rfl, Below.refl _ _⟩
  case round =>
    obtain ⟨k, m, hk, hm0, hm1, rfl, rfl, hbel⟩ := hrel
    by_cases hlt : k < len
    · have hkL : k < L.length := by have := HL.out; omega
      rcases hN with hnil | ⟨b, off, rfl, hb, hc⟩
      · exfalso; rw [hnil] at hkL; exact absurd hkL (by simp)
      obtain ⟨c0, c1, c2, hsz⟩ : wr.cell? ⟨b, off + k * 3, none⟩ = some (.int .i64 L[k].1) ∧ wr.cell? ⟨b, off + k * 3 + 1, none⟩ = some (.int .i64 L[k].2.1) ∧ wr.cell? ⟨b, off + k * 3 + 2, none⟩ = some (.string L[k].2.2) ∧ L[k].2.2.size ≤ maxLen := by
        obtain ⟨d0, d1, d2, d3⟩ := hc k hkL
        exact ⟨(hbel.out.cell (p := ⟨b, _, none⟩) hb).trans d0, (hbel.out.cell (p := ⟨b, _, none⟩) hb).trans d1, (hbel.out.cell (p := ⟨b, _, none⟩) hb).trans d2, d3⟩
      clear hc
      obtain ⟨kd, n, s, hnode⟩ : ∃ kd n s, L[k] = (kd, n, s) := ⟨_, _, _, rfl⟩
      rw [hnode] at c0 c1 c2 hsz
      simp only at c0 c1 c2 hsz
      clear hnode
      have cs := fun W => Mirror.szENode_any kd n m s W hsz hm0 hm1
      have hq : Mirror.left m s = -1 ∨ (0 ≤ Mirror.left m s ∧ Mirror.left m s ≤ 1048576) := by
        unfold Mirror.left; by_cases h : m - s.size < 0
        · rw [if_pos h]; exact .inl rfl
        · rw [if_neg h]; omega
      generalize Mirror.left m s = q at cs hq
      go_wp2_with fail
      refine (cs _).mono ?_
      rintro e w1 ⟨rfl, hb1⟩
      have bel1 : Hid (Below w.heap.size w w1) := hbel.out.trans (hb1.mono hbel.out.size)
      clear hb1 hbel
      rcases hq with rfl | ⟨q0, q1⟩
      · go_wp2
        go_ret
        exact ⟨⟨-1, rfl, .inl (by decide)⟩, bel1.out⟩
      · go_wp2
        go_roundw
        case rel => exact ⟨k + 1, q, by omega, q0, q1, by go_num, rfl, bel1.out⟩
        case measure => simp [intOf]; omega
    · clear hN
      go_wp2
      go_ret
      exact ⟨⟨m, rfl, .inr ⟨hm0, hm1, by omega⟩⟩, hbel.out⟩

set_option maxHeartbeats 1000000 in
theorem szSymS_from (top : Int) (t0 : 0 ≤ top) (t1 : top ≤ 1048576) (a : Option Addr) (cap : Nat) (L : List Symr.Sym) (w : World) (hN : Symr.Syms w a L) (hlen : L.length ≤ maxLen) :
    Calls Try.prog 6 #[.slice a L.length cap, .int .i64 top] w fun e w' => (∃ x : Int, e = .returned (.int .i64 x) ∧ (x < 0 ∨ (0 ≤ x ∧ L.length ≤ 1048576))) ∧ Below w.heap.size w w' := by
  unfold maxLen at hlen
  obtain ⟨len, hl⟩ : ∃ len, len = L.length := ⟨_, rfl⟩
  have HL : Hid (len = L.length) := hl
  rw [← hl] at hlen ⊢
  clear hl
  by_cases hbig : top < (len : Int)
  · clear hN
    go_enter Try.func6, Try.ntmps6
    go_wp2
    go_ret
    exact ⟨⟨-1, rfl, .inl (by decide)⟩, Below.refl _ _⟩
  go_enter Try.func6, Try.ntmps6
  go_wp2
  go_loopw [1, 5] (fun v i wr => ∃ (k : Nat) (m : Int), k ≤ len ∧ 0 ≤ m ∧ m ≤ 1048576 ∧ i = .int .i64 k ∧ v = .int .i64 m ∧ Hid (Below w.heap.size w wr)) (fun _ i _ => len - (intOf i).toNat)
  case atStart => exact ⟨0, _, Nat.zero_le _, by omega, by omega, rfl, rfl, Below.refl _ _⟩
  case round =>
    obtain ⟨k, m, hk, hm0, hm1, rfl, rfl, hbel⟩ := hrel
    by_cases hlt : k < len
    · have hkL : k < L.length := by have := HL.out; omega
      rcases hN with hnil | ⟨b, off, rfl, hb, hc⟩
      · exfalso; rw [hnil] at hkL; exact absurd hkL (by simp)
      obtain ⟨c0, c1, c2, hsz⟩ : wr.cell? ⟨b, off + k * 3, none⟩ = some (.string L[k].1) ∧ wr.cell? ⟨b, off + k * 3 + 1, none⟩ = some (.int .i64 L[k].2.1) ∧ wr.cell? ⟨b, off + k * 3 + 2, none⟩ = some (.int .i64 L[k].2.2) ∧ L[k].1.size ≤ maxLen := by
        obtain ⟨d0, d1, d2, d3⟩ := hc k hkL
        exact ⟨(hbel.out.cell (p := ⟨b, _, none⟩) hb).trans d0, (hbel.out.cell (p := ⟨b, _, none⟩) hb).trans d1, (hbel.out.cell (p := ⟨b, _, none⟩) hb).trans d2, d3⟩
      clear hc
      obtain ⟨s, kd, n, hnode⟩ : ∃ s kd n, L[k] = (s, kd, n) := ⟨_, _, _, rfl⟩
      rw [hnode] at c0 c1 c2 hsz
      simp only at c0 c1 c2 hsz
      clear hnode
      have cs := fun W => Symr.szSym_any kd n m s W hsz hm0 hm1
      have hq : Symr.left m s = -1 ∨ (0 ≤ Symr.left m s ∧ Symr.left m s ≤ 1048576) := by
        unfold Symr.left; by_cases h : m - s.size < 0
        · rw [if_pos h]; exact .inl rfl
        · rw [if_neg h]; omega
      generalize Symr.left m s = q at cs hq
      go_wp2_with fail
      refine (cs _).mono ?_
      rintro e w1 ⟨rfl, hb1⟩
      have bel1 : Hid (Below w.heap.size w w1) := hbel.out.trans (hb1.mono hbel.out.size)
      clear hb1 hbel
      rcases hq with rfl | ⟨q0, q1⟩
      · go_wp2
        go_ret
        exact ⟨⟨-1, rfl, .inl (by decide)⟩, bel1.out⟩
      · go_wp2
        go_roundw
        case rel => exact ⟨k + 1, q, by omega, q0, q1, by go_num, rfl, bel1.out⟩
        case measure => simp [intOf]; omega
    · clear hN
      go_wp2
      go_ret
      exact ⟨⟨m, rfl, .inr ⟨hm0, by omega⟩⟩, hbel.out⟩

end Go.Proofs.Ytnlcfppgpbfmiaa.Szes
