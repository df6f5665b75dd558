/-
  Pieces of an object's text: impl.digitsOf, impl.tellLine.
-/
import Derived.Test.YtplkglgaobdpiaaGreatDoorOtxa
import Derived.Test.YtplkglgaobdpiaaGreatDoorQmov
namespace Go.Proofs.YtplkglgaobdpiaaGreatDoor.Otxb
open Go.ChangeShapes Go.WideShapes Go.ChangeAt Go.RowKit Go.Deep
open Optx (decW Pow)
open Lib (byteCells strCells)
open Bld (Holds)
open Otxa
set_option linter.unusedVariables false
set_option maxRecDepth 20000

theorem own_below {w w1 : World} {base : Nat} {e : TypeId} {size : Nat} {v : Value} {n : Nat} {xs : List Value} (h : w.ownsRow base e size v n xs) (hb : Below w.heap.size w w1) : w1.ownsRow base e size v n xs :=
  h.kept (row := none) ⟨hb.os, hb.tape, hb.output, hb.size, fun k hk _ => hb.block k hk⟩ (by cases hv : Value.ownBlock v <;> simp)
theorem tab_bd : ∀ i : Fin 16, 0 ≤ Nums.tab.getD i.val 0 ∧ Nums.tab.getD i.val 0 ≤ 255 := by decide
theorem two_cells (c : UInt8) : byteCells (two c) = [.int .u8 (Nums.tab.getD (c.toNat / 16) 0), .int .u8 (Nums.tab.getD (c.toNat % 16) 0)] := by
  have h1 := tab_bd ⟨c.toNat / 16, by have := c.toNat_lt; omega⟩
  have h2 := tab_bd ⟨c.toNat % 16, by omega⟩
  simp only at h1 h2
  unfold byteCells two
  simp only [List.map_cons, List.map_nil]
  have e : ∀ x : Int, 0 ≤ x → x ≤ 255 → (((UInt8.ofNat x.toNat).toNat : Nat) : Int) = x := fun x a b => by simp; omega
  rw [e _ h1.1 h1.2, e _ h2.1 h2.2]
set_option maxHeartbeats 2000000 in
theorem digits_any (s : ByteArray) (w : World) (hT : Nums.Tab w) (hs : s.size ≤ 1048576) :
    Calls Tryz.prog 77 #[.string s] w fun e w' => e = .returned (.string (hexA s)) ∧ Below w.heap.size w w' := by
  obtain ⟨i0, hi, hz0, hz1, hz2⟩ := info_parts Obuf.info5
  have HT : Hid (Nums.Tab w) := hT
  have HG : Hid (0 < w.heap.size) := Hex.size_pos hT
  clear hT
  go_enter Tryz.func77, Tryz.ntmps77
  go_wp2
  go_loopw [3, 7] (fun v i wr => ∃ k : Nat, k ≤ s.size ∧ i = .int .i64 (k : Int) ∧ Hid (wr.ownsRow w.heap.size 5 1 v (hexT s k).length (byteCells (hexT s k))) ∧ Hid (Below w.heap.size w wr)) (fun _ i _ => s.size - (intOf i).toNat)
  case atStart => exact ⟨0, Nat.zero_le _, rfl, World.ownsRow_nil _ _ _ _, Below.refl _ _⟩
  case round =>
    obtain ⟨k, hk, rfl, hown, hbel⟩ := hrel
    by_cases hlt : k < s.size
    · have hb := (s[k]'hlt).toNat_lt
      have hix : ∀ w, (Instr.index 9 (.string s) (.int .i64 (k : Int))).run Tryz.prog w = .ok (.int .u8 ((s[k]'hlt).toNat : Int)) w := fun w => by
        rw [run_index_string w 9 s .i64 (k : Int) Tryz.underlying9, dif_pos ⟨by omega, by omega⟩]
        rfl
      have HN : Hid (byteCells (hexT s (k + 1)) = byteCells (hexT s k) ++ [.int .u8 (Nums.tab.getD ((s[k]'hlt).toNat / 16) 0), .int .u8 (Nums.tab.getD ((s[k]'hlt).toNat % 16) 0)]) := (show _ = _ from by
        rw [hexT_step hlt, ← two_cells]; unfold byteCells; rw [List.map_append])
      have hl := hexT_len (s := s) (k := k) hk
      have hl1 := hexT_len (s := s) (k := k + 1) (by omega)
      generalize (s[k]'hlt).toNat = c at hb hix HN
      have t0 : wr.cell? ⟨0, c / 16, none⟩ = some (.int .u8 (Nums.tab.getD (c / 16) 0)) := (hbel.out.cell (p := ⟨_, _, none⟩) HG.out).trans (HT.out (c / 16) (by omega))
      have t1 : wr.cell? ⟨0, c % 16, none⟩ = some (.int .u8 (Nums.tab.getD (c % 16) 0)) := (hbel.out.cell (p := ⟨_, _, none⟩) HG.out).trans (HT.out (c % 16) (by omega))
      generalize Nums.tab.getD (c / 16) 0 = x0 at t0 HN
      generalize Nums.tab.getD (c % 16) 0 = x1 at t1 HN
      have r0 := cell_regrown t0
      have r1 := cell_regrown t1
      have dk : IntKind.i64.wrap ((k : Int) + 1) = ((k + 1 : Nat) : Int) := by rw [IntKind.wrap_i64]; omega
      have d0 : (c : Int).tdiv 16 = ((c / 16 : Nat) : Int) := by rw [Int.tdiv_eq_ediv_of_nonneg (by omega)]; omega
      have d1 : (c : Int).tmod 16 = ((c % 16 : Nat) : Int) := by rw [Int.tmod_eq_emod_of_nonneg (by omega)]; omega
      have d2 : IntKind.u8.wrap ((c / 16 : Nat) : Int) = ((c / 16 : Nat) : Int) := by rw [IntKind.wrap_u8]; omega
      have d3 : IntKind.u8.wrap ((c % 16 : Nat) : Int) = ((c % 16 : Nat) : Int) := by rw [IntKind.wrap_u8]; omega
      have e0 : (0 : Int) ≤ ((c / 16 : Nat) : Int) := by omega
      have e1 : ((c / 16 : Nat) : Int) < 16 := by omega
      have e2 : (0 : Int) ≤ ((c % 16 : Nat) : Int) := by omega
      have e3 : ((c % 16 : Nat) : Int) < 16 := by omega
      generalize c / 16 = ca at t0 r0 d0 d2 e0 e1
      generalize c % 16 = cm at t1 r1 d1 d3 e2 e3
      go_upto_region 5 with fail
      refine Qmov.tail_move 0 13 (by kernel_rfl) (by kernel_rfl) (fun _ _ _ _ _ h => h) ?_
      simp only [List.take_succ_cons, List.take_zero, List.drop_succ_cons, List.drop_zero]
      repeat (go_big_quiet_step (first | fail))
      refine wpQuiet_nil ?_
      intro _ hw'
      obtain ⟨⟨dq, osq⟩, hw''⟩ := hw'
      subst hw''
      have own1 : Hid ((Go.Sort.grow (redrawn wr dq) osq).ownsRow w.heap.size 5 1 u3 (hexT s k).length (byteCells (hexT s k))) := own_below hown.out (below_regrown wr dq osq)
      have bel1 : Hid (Below w.heap.size w (Go.Sort.grow (redrawn wr dq) osq)) := after hbel.out (below_regrown wr dq osq)
      generalize Go.Sort.grow (redrawn wr dq) osq = W1 at own1 bel1 ⊢
      clear hown hbel r0 r1 t0 t1
      have hlt2 := own1.out.lt
      go_wp2_with (first | (at_builtin; refine wpList_append_own _ rfl (.tmp 10) (.tmp 23) 41 rfl w.heap.size 5 i0 (.int .u8 0) 1 1 Tryz.underlying41 hi hz0 hz1 hz2 rfl (by decide) _ _ _ rfl (own1.out.alloc _) ⟨W1.heap.size, 0, none⟩ 2 2 [.int .u8 x0, .int .u8 x1] rfl rfl (fun j u hu => by rw [Addr.add_lit, Nat.zero_add, World.cell?_alloc_new]; simpa using hu) (by intro u hu; simp at hu; rcases hu with rfl | rfl <;> rfl) (by unfold maxLen; omega) (by omega) (by have := bel1.out.size; simp; omega) ?_; intro v' w9 hown' hgrow _) | fail)
      have own9 : Hid (w9.ownsRow w.heap.size 5 1 v' (hexT s (k + 1)).length (byteCells (hexT s (k + 1)))) := by
        show w9.ownsRow w.heap.size 5 1 v' (hexT s (k + 1)).length (byteCells (hexT s (k + 1)))
        rw [HN.out, hl1, show 2 * (k + 1) = 2 * k + 2 by omega, ← hl]; exact hown'
      have bel9 : Hid (Below w.heap.size w w9) := (bel1.out.alloc bel1.out.size _).grown hgrow (by have := bel1.out.size; simp; omega) (fun j hj => (hlt2 j hj).1)
      clear hown' hgrow hlt2 own1 bel1
      go_wp2
      go_roundw
      case rel => exact ⟨k + 1, by omega, by go_num, own9.out, bel9.out⟩
      case measure => simp [intOf]; omega
    · have e : k = s.size := by omega
      subst e
      have hcv := Obuf.str_own (W := wr) (l := hexT s s.size) hown.out
      have HA : Hid (hexA s = ⟨(hexT s s.size).toArray⟩) := (show _ = _ from by rw [hexT_all]; rfl)
      generalize (⟨(hexT s s.size).toArray⟩ : ByteArray) = R at hcv HA
      clear hown
      go_wp2
      go_ret
      exact ⟨ret_str HA.out, hbel.out⟩
end Go.Proofs.YtplkglgaobdpiaaGreatDoor.Otxb
