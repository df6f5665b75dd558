/-
  Contracts of ours for the draws of an expression's text; sameExpr.
-/
import Derived.Test.YtfgabgihdcokdaaDoorBack
namespace Go.Proofs.YtfgabgihdcokdaaDoor.DrawE
open Go.ChangeShapes Go.WideShapes Go.ChangeAt Go.RowKit Go.Deep
open Rdr (Rd Post)
open Optx Extx Exts Nodi Worr Wors Woru
open Stepx (Nodes exprB)
set_option linter.unusedVariables false
set_option maxRecDepth 20000
theorem text_len (L : List Stepx.Node) : (exprT L).size ≤ 630 := by
  unfold exprT
  split
  · rename_i h
    obtain ⟨h30, hok⟩ := ok_all h
    have hl : (words L).length = L.length := List.length_map ..
    have := Extx.join_len (words L) (fun x hx => by
      obtain ⟨y, hy, rfl⟩ := List.mem_map.1 hx
      exact Extx.word_len (hok y hy))
    show (Lib.join ((words L).map (·.data.toList)) [32]).length ≤ 630
    omega
  · exact Nat.zero_le _
theorem out_empty : outI ⟨#[]⟩ = none := by
  rw [same]; unfold outS; rw [if_pos (.inl rfl)]
theorem out_text {L : List Stepx.Node} (hp : ∀ x ∈ L, Cmpf.Plain x.2.2) : (outI (exprT L)).isSome = exprB L ∧ (exprB L = true → lst (outI (exprT L)) = L) := by
  cases h : exprB L with
  | true => rw [Back.text_back h hp]; exact ⟨rfl, fun _ => rfl⟩
  | false =>
    have e : exprT L = ⟨#[]⟩ := by unfold exprT; rw [if_neg (by rw [h]; decide)]
    rw [e, out_empty]; exact ⟨rfl, fun h => by cases h⟩
theorem back_text {t : ByteArray} (h : (outI t).isSome = true) : exprT (lst (outI t)) = t := by
  rw [same] at h ⊢
  unfold outS at h ⊢
  split at h
  · cases h
  · rename_i hh
    rw [if_neg hh]
    exact Decidable.byContradiction fun e => hh (.inr e)
set_option maxHeartbeats 400000 in
theorem drawReadExpr_any (a : Option Addr) (len cap : Nat) (zs : List Int) (w : World) (h : Rdr.IsRow .u8 w a len cap zs) :
    Calls Tryd.prog 14 #[.slice a len cap] w fun e w' => (∃ t : ByteArray, t.size ≤ 1000 ∧ e = .returned (.string t)) ∧ Below w.heap.size w w' := by
  have ho := Rdr.open_any a len cap zs w h
  clear h
  go_enter Tryd.func14, Tryd.ntmps14
  go_wp2_with fail
  refine ho.mono ?_
  rintro e w1 ⟨rfl, hr, hb⟩
  have R : Hid (Rd w1 w.heap.size ∧ Below w.heap.size w w1) := ⟨hr, hb⟩
  clear hr hb ho
  go_wp2_with fail
  refine (Cmpf.expr_any _ _ R.out.1).mono ?_
  rintro e w2 ⟨⟨a2, cap2, L, rfl, ho2, hl, hn⟩, hp⟩
  have N2 : Hid (Nodes w2 a2 L) := Nodm.nodes_own ho2 (fun x hx => Nat.le_trans (hn x hx).1 (by decide))
  have P2 : Hid (Post w1 w.heap.size w2) := hp
  clear ho2 hp hn
  have ct := fun w hN => Exts.specText_any a2 cap2 L w hN (by omega)
  have hz := text_len L
  generalize exprT L = s at *
  go_wp2_with fail
  refine (ct _ N2.out).mono ?_
  rintro e w3 ⟨rfl, b3⟩
  have P3 : Hid (Post w1 w.heap.size w3) := P2.out.trans (Cmpf.post_below P2.out.1 b3)
  clear b3 ct
  go_wp2_with fail
  refine (Draw.hurt_any _ _ _ P3.out.1 (by omega)).mono ?_
  rintro e w4 ⟨⟨t, ht, rfl⟩, hp4⟩
  have B4 : Hid (Below w.heap.size w w4) := R.out.2.trans ((P3.out.trans hp4).below (Nat.le_refl _) R.out.2.size)
  clear hp4
  go_wp2_with fail
  go_ret
  exact ⟨⟨t, by omega, rfl⟩, B4.out⟩
set_option maxHeartbeats 1000000 in
theorem sameExpr_any (a a' : Option Addr) (cap cap' : Nat) (L : List Stepx.Node) (w : World) (hN : Nodes w a L) (hN' : Nodes w a' L) (hlen : L.length ≤ 1048576) :
    Calls Tryd.prog 13 #[.slice a L.length cap, .slice a' L.length cap'] w fun e w' => e = .returned (.bool true) ∧ Below w.heap.size w w' := by
  obtain ⟨len, hl⟩ : ∃ len, len = L.length := ⟨_, rfl⟩
  have HL : Hid (len = L.length) := hl
  rw [← hl] at hlen ⊢
  clear hl
  go_enter Tryd.func13, Tryd.ntmps13
  go_wp2
  go_loopw [5] (fun i wr => ∃ k : Nat, k ≤ len ∧ i = .int .i64 k ∧ Hid (Below w.heap.size w wr)) (fun i _ => len - (intOf i).toNat)
  case atStart => exact ⟨0, Nat.zero_le _, rfl, Below.refl _ _⟩
  case round =>
    obtain ⟨k, hk, rfl, hbel⟩ := hrel
    by_cases hlt : k < len
    · have hkL : k < L.length := by have := HL.out; omega
      rcases hN with hnil | ⟨b, off, rfl, hb, hc⟩
      · exfalso; rw [hnil] at hkL; exact absurd hkL (by simp)
      rcases hN' with hnil | ⟨b', off', rfl, hb', hc'⟩
      · exfalso; rw [hnil] at hkL; exact absurd hkL (by simp)
      obtain ⟨c0, c1, c2⟩ : wr.cell? ⟨b, off + k * 3, none⟩ = some (.int .i64 L[k].1) ∧ wr.cell? ⟨b, off + k * 3 + 1, none⟩ = some (.int .i64 L[k].2.1) ∧ wr.cell? ⟨b, off + k * 3 + 2, none⟩ = some (.string L[k].2.2) := by
        obtain ⟨d0, d1, d2, d3⟩ := hc k hkL
        exact ⟨(hbel.out.cell (p := ⟨b, _, none⟩) hb).trans d0, (hbel.out.cell (p := ⟨b, _, none⟩) hb).trans d1, (hbel.out.cell (p := ⟨b, _, none⟩) hb).trans d2⟩
      obtain ⟨e0, e1, e2⟩ : wr.cell? ⟨b', off' + k * 3, none⟩ = some (.int .i64 L[k].1) ∧ wr.cell? ⟨b', off' + k * 3 + 1, none⟩ = some (.int .i64 L[k].2.1) ∧ wr.cell? ⟨b', off' + k * 3 + 2, none⟩ = some (.string L[k].2.2) := by
        obtain ⟨d0, d1, d2, d3⟩ := hc' k hkL
        exact ⟨(hbel.out.cell (p := ⟨b', _, none⟩) hb').trans d0, (hbel.out.cell (p := ⟨b', _, none⟩) hb').trans d1, (hbel.out.cell (p := ⟨b', _, none⟩) hb').trans d2⟩
      clear hc hc'
      generalize L[k].1 = kd at c0 e0
      generalize L[k].2.1 = n at c1 e1
      generalize L[k].2.2 = s at c2 e2
      have k0 : (0 : Int) ≤ (k : Int) := by omega
      have k1 : (k : Int) < (len : Int) := by omega
      go_wp2_with fail
      go_quiet (fail)
      go_wp2_with fail
      go_roundw
      case rel => exact ⟨k + 1, by omega, by go_num, below_drewN hbel.out _⟩
      case measure => simp [intOf]; omega
    · clear hN hN'
      go_wp2
      go_ret
      exact ⟨rfl, hbel.out⟩
end Go.Proofs.YtfgabgihdcokdaaDoor.DrawE
