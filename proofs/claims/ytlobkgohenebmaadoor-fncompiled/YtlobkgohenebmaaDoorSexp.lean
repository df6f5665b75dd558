/-
  Contracts of ours for laws.sameExpr, impl.ExprOk; an expression with one node more, as a row of the call's own.
-/
import Derived.Test.YtlobkgohenebmaaDoorNodm
import Derived.Deep.QuietTactic
import Derived.BigQuiet
import Derived.Deep.RegionWith
namespace Go.Proofs.YtlobkgohenebmaaDoor.Sexp
open Go.ChangeShapes Go.WideShapes Go.ChangeAt Go.RowKit Go.Deep
open Nodm (cellsOf cells_snoc Own)
open Stepx (Nodes exprB)
set_option linter.unusedVariables false
set_option maxRecDepth 20000
set_option maxHeartbeats 1000000 in
theorem sameExpr_any (a a' : Option Addr) (cap cap' : Nat) (L : List Stepx.Node) (w : World) (hN : Nodes w a L) (hN' : Nodes w a' L) (hlen : L.length ≤ 1048576) :
    Calls Tryd.prog 12 #[.slice a L.length cap, .slice a' L.length cap'] w fun e w' => e = .returned (.bool true) ∧ Below w.heap.size w w' := by
  obtain ⟨len, hl⟩ : ∃ len, len = L.length := ⟨_, rfl⟩
  have HL : Hid (len = L.length) := hl
  rw [← hl] at hlen ⊢
  clear hl
  go_enter Tryd.func12, Tryd.ntmps12
  go_wp2
  go_loopw [5] (fun i wr => ∃ k : Nat, k ≤ len ∧ i = .int .i64 k ∧ Hid (Below w.heap.size w wr)) (fun i _ => len - (intOf i).toNat)
  case atStart => exact ⟨0, Nat.zero_le _, rfl, Below.refl _ _⟩
  case round =>
    obtain ⟨k, hk, rfl, hbel⟩ := hrel
    by_cases hlt : k < len
    · have hkL : k < L.length := by have := HL.out; omega
      rcases hN with hnil | ⟨b, off, rfl, hb, hc⟩
      · exfalso; rw [hnil] at hkL; exact absurd hkL (by simp)
      rcases hN' with hnil | ⟨b', off', rfl, hb', hc'⟩
      · exfalso; rw [hnil] at hkL; exact absurd hkL (by simp)
      obtain ⟨c0, c1, c2⟩ : wr.cell? ⟨b, off + k * 3, none⟩ = some (.int .i64 L[k].1) ∧ wr.cell? ⟨b, off + k * 3 + 1, none⟩ = some (.int .i64 L[k].2.1) ∧ wr.cell? ⟨b, off + k * 3 + 2, none⟩ = some (.string L[k].2.2) := by
        obtain ⟨d0, d1, d2, d3⟩ := hc k hkL
        exact ⟨(hbel.out.cell (p := ⟨b, _, none⟩) hb).trans d0, (hbel.out.cell (p := ⟨b, _, none⟩) hb).trans d1, (hbel.out.cell (p := ⟨b, _, none⟩) hb).trans d2⟩
      obtain ⟨e0, e1, e2⟩ : wr.cell? ⟨b', off' + k * 3, none⟩ = some (.int .i64 L[k].1) ∧ wr.cell? ⟨b', off' + k * 3 + 1, none⟩ = some (.int .i64 L[k].2.1) ∧ wr.cell? ⟨b', off' + k * 3 + 2, none⟩ = some (.string L[k].2.2) := by
        obtain ⟨d0, d1, d2, d3⟩ := hc' k hkL
        exact ⟨(hbel.out.cell (p := ⟨b', _, none⟩) hb').trans d0, (hbel.out.cell (p := ⟨b', _, none⟩) hb').trans d1, (hbel.out.cell (p := ⟨b', _, none⟩) hb').trans d2⟩
      clear hc hc'
      generalize L[k].1 = kd at c0 e0
      generalize L[k].2.1 = n at c1 e1
      generalize L[k].2.2 = s at c2 e2
      have k0 : (0 : Int) ≤ (k : Int) := by omega
      have k1 : (k : Int) < (len : Int) := by omega
      go_wp2_with fail
      go_quiet (fail)
      go_wp2_with fail
      go_roundw
      case rel => exact ⟨k + 1, by omega, by go_num, below_drewN hbel.out _⟩
      case measure => simp [intOf]; omega
    · clear hN hN'
      go_wp2
      go_ret
      exact ⟨rfl, hbel.out⟩

theorem same_n {a a' : Option Addr} {cap cap' n : Nat} {L : List Stepx.Node} (hn : n = L.length) (w : World) (hN : Nodes w a L) (hN' : Nodes w a' L) (hlen : L.length ≤ 1048576) :
    Calls Tryd.prog 12 #[.slice a n cap, .slice a' n cap'] w fun e w' => e = .returned (.bool true) ∧ Below w.heap.size w w' := by
  subst hn; exact sameExpr_any a a' cap cap' L w hN hN' hlen
theorem implOk_any {a : Option Addr} {cap n : Nat} {L : List Stepx.Node} (hn : n = L.length) (w : World) (hN : Nodes w a L) (hlen : L.length ≤ 1048576) :
    Calls Tryd.prog 13 #[.slice a n cap] w fun e w' => e = .returned (.bool (exprB L)) ∧ Below w.heap.size w w' := by
  subst hn
  have cs := Stepx.stepsOf_any a cap L w hN hlen
  clear hN
  go_enter Tryd.func13, Tryd.ntmps13
  go_wp2_with (go_at_call 24; refine cs.mono ?_; rintro e w1 ⟨⟨v, rfl, hv⟩, hb⟩)
  go_ret
  exact ⟨rfl, hb⟩
theorem cells_one (L : List Stepx.Node) : ∀ u ∈ cellsOf L, u.oneCell' = true := by
  induction L with
  | nil => intro u hu; simp [cellsOf] at hu
  | cons x r ih =>
    intro u hu
    have hu : u ∈ [Value.int .i64 x.1, .int .i64 x.2.1, .string x.2.2] ++ cellsOf r := hu
    rcases List.mem_append.1 hu with h | h
    · simp at h; rcases h with rfl | rfl | rfl <;> rfl
    · exact ih u h
theorem cells_len (L : List Stepx.Node) : (cellsOf L).length = L.length * 3 := by
  induction L with
  | nil => rfl
  | cons x r ih =>
    have e : cellsOf (x :: r) = [Value.int .i64 x.1, .int .i64 x.2.1, .string x.2.2] ++ cellsOf r := rfl
    rw [e, List.length_append, ih]; simp; omega
theorem own_addr {w : World} {base cap n : Nat} {a : Option Addr} {L : List Stepx.Node} (h : Own w base (.slice a L.length cap) L) (hn : n = L.length) (h0 : 0 < n) : ∃ g, a = some ⟨g, 0, none⟩ := by
  rcases h.2 with ⟨h1, h2⟩ | ⟨g, c, cur, h1, _⟩
  · omega
  · refine ⟨g, ?_⟩
    have := Value.slice.inj h1
    exact this.1
end Go.Proofs.YtlobkgohenebmaaDoor.Sexp
