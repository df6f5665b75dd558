/-
  Contracts of ours for slices.Sort and slices.Compact over a row of texts that the call owns; for impl.NamesIn.
-/
import Derived.Test.YtfgabgihdcokdaaNamr
import Derived.Test.YtfgabgihdcokdaaShelf
import Derived.Sort.OwnSorted
import Derived.Lib.RowBridge
namespace Go.Proofs.Ytfgabgihdcokdaa.Nams
open Go.ChangeShapes Go.WideShapes Go.ChangeAt Go.RowKit Go.Deep
open Namp Namq Namr
open Go.Sort
open Stepx (Nodes exprB)
set_option linter.unusedVariables false
set_option maxRecDepth 20000
theorem enc_cell (l : List T) : l.map encStr = cells l := rfl
theorem sort_own {base n : Nat} {v : Value} {N : List T} {w : World} (h : w.ownsRow base 9 1 v n (cells N)) (hn : n ≤ 100) :
    Calls Try.prog 21 #[v] w fun e w' => e = .returned (.tuple #[]) ∧ w'.ownsRow base 9 1 v n (cells (N.mergeSort fun x y => decide (x ≤ y))) ∧ w.grownBy w' v.ownBlock := by
  have hlen : N.length = n := by have := h.1; rwa [cells_len, Nat.mul_one] at this
  rcases h.2 with ⟨rfl, h0⟩ | ⟨g, cap, cur, rfl, hbg, hg, hnc, hcm, hcs, htake⟩
  · have hN : N = [] := List.length_eq_zero_iff.1 (by omega)
    subst hN
    refine (Try.slices_Sort_string_none none 0 w).mono ?_
    rintro e w' ⟨rfl, rfl⟩
    exact ⟨rfl, by rw [List.mergeSort_nil]; exact h, ⟨rfl, rfl, rfl, Nat.le_refl _, fun _ _ _ => rfl⟩⟩
  · subst hlen
    have hl : g < w.heap.size := (h.lt g rfl).2
    rw [Nat.mul_one] at htake
    refine (Try.slices_Sort_string g 0 cap N w (Go.holds_of_block hg htake) hl (by omega)).mono ?_
    rintro e w' ⟨rfl, q, os, rfl⟩
    exact ⟨rfl, Go.ownsRow_sorted (List.length_mergeSort _) hbg hg hnc hcm hcs, Go.grownBy_sorted _⟩
theorem grow_nil (w : World) : grow w #[] = w := by unfold grow; simp
theorem compact_own {base n : Nat} {v : Value} {N : List T} {w : World} (h : w.ownsRow base 9 1 v n (cells N)) (hn : n ≤ 100) :
    Calls Try.prog 22 #[v] w fun e w' => ∃ v', e = .returned v' ∧ w'.ownsRow base 9 1 v' (Lib.compact N).length (cells (Lib.compact N)) ∧ w.grownBy w' v.ownBlock := by
  have hlen : N.length = n := by have := h.1; rwa [cells_len, Nat.mul_one] at this
  rcases h.2 with ⟨rfl, h0⟩ | ⟨g, cap, cur, rfl, hbg, hg, hnc, hcm, hcs, htake⟩
  · have hN : N = [] := List.length_eq_zero_iff.1 (by omega)
    subst hN
    refine (Try.slices_Compact_string_empty none 0 w).mono ?_
    rintro e w' ⟨rfl, rfl⟩
    exact ⟨_, rfl, World.ownsRow_nil _ _ _ _, ⟨rfl, rfl, rfl, Nat.le_refl _, fun _ _ _ => rfl⟩⟩
  · subst hlen
    rw [Nat.mul_one] at htake
    have hcl := Lib.compact_length_le N
    refine (Try.slices_Compact_string g 0 cap N w (Go.holds_of_block hg htake) (by omega) hnc).mono ?_
    rintro e w' ⟨rfl, q, rfl⟩
    have hl : (Lib.compact N ++ List.replicate (N.length - (Lib.compact N).length) []).length = N.length := by rw [List.length_append, List.length_replicate]; omega
    have o := Go.ownsRow_sorted (base := base) (n := q) (os := #[]) (ss := N) hl hbg hg hnc hcm hcs
    have gr := Go.grownBy_sorted (w := w) (g := g) (n := q) (os := #[]) (Lib.compact N ++ List.replicate (N.length - (Lib.compact N).length) []).toArray
    rw [grow_nil] at o gr
    refine ⟨_, rfl, ?_, gr⟩
    rcases o.2 with ⟨hv, _⟩ | ⟨g', cap', cur', hv, p1, p2, p3, p4, p5, p6⟩
    · cases hv
    · cases hv
      refine ⟨by rw [cells_len, Nat.mul_one], .inr ⟨g, cap, cur', rfl, p1, p2, by omega, p4, p5, ?_⟩⟩
      have e := congrArg (List.take (Lib.compact N).length) p6
      rw [Nat.mul_one, List.take_take, Nat.min_eq_left hcl] at e
      rw [Nat.mul_one, e, List.map_append, List.take_append_of_le_length (by simp), List.take_of_length_le (by simp)]
      rfl
set_option maxHeartbeats 2000000 in
theorem implNames_any (a : Option Addr) (cap : Nat) (L : List Stepx.Node) (w : World) (hN : Nodes w a L) (hlen : L.length ≤ 1048576) :
    Calls Try.prog 9 #[.slice a L.length cap] w fun e w' => ∃ v, e = .returned v ∧ w'.ownsRow w.heap.size 9 1 v (outN L).length (cells (outN L)) ∧ Below w.heap.size w w' := by
  obtain ⟨i0, hi, hz0, hz1, hz2⟩ := info_parts infoS
  have H : Hid (Nodes w a L) := hN
  have cs := Stepx.stepsOf_any a cap L w hN hlen
  have co : Calls Try.prog 20 #[.slice a L.length cap] w fun e w' => e = .returned (.bool (exprB L)) ∧ Below w.heap.size w w' := by
    clear hN H
    go_enter Try.func20, Try.ntmps20
    go_wp2_with (go_at_call 16; refine cs.mono ?_; rintro e w1 ⟨⟨v, rfl, hv⟩, hb⟩)
    go_ret
    exact ⟨rfl, hb⟩
  clear hN cs
  cases hx : exprB L with
  | false =>
    rw [hx] at co
    have OUT : Hid (outN L = []) := by show _ = _; unfold outN; rw [hx]; rfl
    go_enter Try.func9, Try.ntmps9
    go_wp2_with (go_at_call 20; refine co.mono ?_; rintro e w1 ⟨rfl, b1⟩)
    go_ret
    exact ⟨_, rfl, by rw [OUT.out]; exact World.ownsRow_nil _ _ _ _, b1⟩
  | true =>
    rw [hx] at co
    have h30 : L.length ≤ 30 := by
      unfold Stepx.exprB at hx
      exact of_decide_eq_true (Bool.and_eq_true_iff.1 hx).1
    have OUT : Hid (outN L = Lib.compact ((namesT (L.take L.length)).mergeSort fun x y => decide (x ≤ y))) := by
      show _ = _
      unfold outN
      rw [if_pos hx, List.take_length, sorted_put]
    clear hx
    go_enter Try.func9, Try.ntmps9
    go_wp2_with (go_at_call 20; refine co.mono ?_; rintro e w1 ⟨rfl, b1⟩; have B1 : Hid (Below w.heap.size w w1) := b1; clear b1)
    go_loopw [3, 11] (fun x y wr => ∃ (k n : Nat) (ao : Option Addr) (c : Nat), k ≤ L.length ∧ n ≤ k ∧ x = .slice ao n c ∧ y = .int .i64 (k : Int) ∧ Hid (wr.ownsRow w.heap.size 9 1 (.slice ao n c) n (cells (namesT (L.take k)))) ∧ Hid (Below w.heap.size w wr)) (fun _ y _ => L.length - (intOf y).toNat)
    case atStart => exact ⟨0, 0, none, 0, Nat.zero_le _, Nat.le_refl _, rfl, rfl, World.ownsRow_nil _ _ _ _, B1.out⟩
    case round =>
      clear B1 co
      obtain ⟨k, n, ao, c, hk, hnk, rfl, rfl, hown, hbel⟩ := hrel
      by_cases hlt : k < L.length
      · have k0 : (0 : Int) ≤ (k : Int) := by omega
        have k1 : (k : Int) < (L.length : Int) := by omega
        have FS := (show Hid _ from names_step hlt)
        have H2 := Mirror.Nodes.below H.out hbel.out
        rcases H2 with he | ⟨b, off, rfl, hbl, hcl⟩
        · rw [he] at hlt; exact absurd hlt (Nat.not_lt_zero _)
        · obtain ⟨c0, c1, c2, _⟩ := hcl k hlt
          clear hcl
          generalize L[k].2.2 = X at *
          generalize L[k].1 = kd at *
          generalize L[k].2.1 = nn at *
          by_cases hz : X.size = 0
          · have e0 : X.toList.isEmpty = true := Names.empty_yes hz
            have FE : Hid (namesT (L.take (k + 1)) = namesT (L.take k)) := by show _ = _; rw [FS.out, if_pos (by rw [← ByteArray.toList_eq]; exact e0), List.append_nil]
            clear FS
            go_wp2_with fail
            go_roundw
            case rel => exact ⟨k + 1, n, ao, c, by omega, by omega, rfl, by go_num, by rw [FE.out]; exact hown.out.alloc _, hbel.out.alloc hbel.out.size _⟩
            case measure => simp [intOf]; omega
          · have e0 : X.toList.isEmpty = false := Names.empty_no hz
            have FE : Hid (cells (namesT (L.take (k + 1))) = cells (namesT (L.take k)) ++ [.string X]) := by
              show _ = _
              rw [FS.out, if_neg (by rw [← ByteArray.toList_eq, e0]; decide)]
              unfold cells
              rw [List.map_append]; rfl
            clear FS
            generalize cells (namesT (L.take k)) = cl at *
            have own1 : Hid (∀ o1 o2, ((wr.alloc o1).alloc o2).ownsRow w.heap.size 9 1 (.slice ao n c) n cl) := fun o1 o2 => (hown.out.alloc o1).alloc o2
            have BB : Hid (∀ o1 o2, Below w.heap.size w ((wr.alloc o1).alloc o2)) := fun o1 o2 => (hbel.out.alloc hbel.out.size o1).alloc (hbel.out.alloc hbel.out.size o1).size o2
            go_wp2_with (at_builtin; refine wpList_append_own _ rfl _ _ 30 rfl w.heap.size 9 i0 (.string ⟨#[]⟩) 1 16 Try.underlying30 hi hz0 hz1 hz2 rfl (by decide) (.slice ao n c) n cl rfl (own1.out _ _) ⟨wr.heap.size + 1, 0, none⟩ 1 1 [.string X] rfl ?a1 ?a2 ?a3 ?a4 ?a5 ?a6 ?_)
            case a1 => rfl
            case a2 =>
              intro j u hj
              match j, hj with
              | 0, hj =>
                simp at hj; subst hj
                show World.cell? _ ⟨wr.heap.size + 1, 0, none⟩ = _
                have es : ∀ o : Obj, wr.heap.size + 1 = (wr.alloc o).heap.size := fun o => by simp
                rw [es, World.cell?_alloc_new]; rfl
            case a3 => intro u hu; rw [List.mem_singleton.1 hu]; rfl
            case a4 => unfold maxLen; omega
            case a5 => omega
            case a6 => exact (BB.out _ _).size
            intro v2 w2 own2 grow2 _
            have B2 : Hid (Below w.heap.size w w2) := (BB.out _ _).grown grow2 (BB.out _ _).size (fun b hb => ((own1.out (.cells #[] 0) (.cells #[] 0)).lt b hb).1)
            have O2 : Hid (w2.ownsRow w.heap.size 9 1 v2 (n + 1) (cells (namesT (L.take (k + 1))))) := by
              show World.ownsRow _ _ _ _ _ _ _
              rw [FE.out]; exact own2
            obtain ⟨ao', c', rfl⟩ : ∃ ao' c', v2 = .slice ao' (n + 1) c' := by
              rcases own2.2 with ⟨_, h⟩ | ⟨g, c, cur, hv, _⟩
              · omega
              · exact ⟨_, _, hv⟩
            clear own2 grow2 own1 BB hown hbel
            go_wp2_with fail
            go_roundw
            case rel => exact ⟨k + 1, n + 1, ao', c', by omega, by omega, rfl, by go_num, O2.out, B2.out⟩
            case measure => simp [intOf]; omega
      · have e : k = L.length := by omega
        subst e
        have so := sort_own hown.out (by omega)
        generalize (namesT (L.take L.length)).mergeSort (fun x y => decide (x ≤ y)) = M at *
        have OB := (show Hid (∀ b, (Value.slice ao n c).ownBlock = some b → w.heap.size ≤ b) from fun b hb => (hown.out.lt b hb).1)
        clear hown
        go_wp2_with (go_at_call 21; refine so.mono ?_; rintro e w2 ⟨rfl, o2, g2⟩; have B2 : Hid (Below w.heap.size w w2) := hbel.out.grown g2 hbel.out.size (fun b hb => OB.out b hb); have co := compact_own o2 (by omega); clear o2 g2)
        refine co.mono ?_
        rintro e w3 ⟨v3, rfl, o3, g3⟩
        have B3 : Hid (Below w.heap.size w w3) := B2.out.grown g3 B2.out.size (fun b hb => OB.out b hb)
        have O3 : Hid (w3.ownsRow w.heap.size 9 1 v3 (outN L).length (cells (outN L))) := by
          show World.ownsRow _ _ _ _ _ _ _
          rw [OUT.out]; exact o3
        clear o3 g3 co so
        go_wp2_with fail
        go_ret
        exact ⟨_, rfl, O3.out, B3.out⟩
end Go.Proofs.Ytfgabgihdcokdaa.Nams
